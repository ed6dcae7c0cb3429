/- The words of a text,as plain functions on lists of bytes: what is skipped,which word comes next,all words; and small facts on them. -/
import Derived.Test.YtnmkffjklpfflaaGreatDoorRows
import Derived.WalkKit
import Derived.WalkSpells
import Derived.WalkLawsBesides
import Derived.BigQuiet
import Derived.Deep.QuietTactic
import Derived.Lib.Strings
import Derived.Lib.IndexBytes
import Derived.Lib.Bytealg
import Derived.Laws.RangeString
import Derived.Laws.RangeAny
import Derived.Defers
import Derived.Recover
namespace Go.Proofs.YtnmkffjklpfflaaGreatDoor
open Go.RowKit
def zG (n : Int) : Bool := decide ((97 <= n /\ n <= 122) \/ (65 <= n /\ n <= 90))
def zx (n : Int) : Bool := decide (48 <= n /\ n <= 57)
def vM (n : Int) : Bool := decide (n = 32 \/ n = 9 \/ n = 13 \/ n = 10)
def lod (n : Int) : Bool := zG n || zx n
def zM (r : List UInt8) (a b : UInt8) : Bool := r.take 2 == [a,b]
def cmt : Nat -> List UInt8 -> Option (List UInt8)
 | _,[] => none
 | _,[_] => none
 | d,a :: b :: r => if a = 40 /\ b = 42 then cmt (d + 1) r else if a = 42 /\ b = 41 then (if d <= 1 then some r else cmt (d - 1) r) else cmt d (b :: r)
def xn : Nat -> List UInt8 -> Except (List UInt8) (List UInt8)
 | 0,r => .ok r
 | _ + 1,[] => .ok []
 | n + 1,c :: r => if vM c.toNat then xn n r else if zM (c :: r) 40 42 then (match cmt 0 (c :: r) with | none => .error (c :: r) | some r' => xn n r') else .ok (c :: r)
def skp (r : List UInt8) : Except (List UInt8) (List UInt8) := xn r.length r
def yb (p : Int -> Bool) (r : List UInt8) : List UInt8 := r.takeWhile (fun c => p c.toNat)
def zU : Int -> List UInt8 -> Option Int
 | v,[] => some v
 | v,c :: r => if (2147483647 - ((c.toNat : Int) - 48)) / 10 < v then none else zU (v * 10 + ((c.toNat : Int) - 48)) r
def jZ : List UInt8 := [61,35,60,62,43,45,42,38,126,40,41,91,93,123,125,44,59,58,46,94]
def ys (r : List UInt8) : List UInt8 :=
 if zM r 58 61 || zM r 60 61 || zM r 62 61 then r.take 2
 else if r.take 1 ≠ [] /\ jZ.contains (r.headD 0) then r.take 1 else []
def xp (r : List UInt8) : Except Nat (List UInt8) :=
 if zG (r.headD 0).toNat then (if 12 < (yb lod r).length then .error 3 else .ok (yb lod r))
 else if zx (r.headD 0).toNat then (match zU 0 (yb zx r) with | none => .error 3 | some _ => .ok (yb zx r))
 else if ys r = [] then .error 1 else .ok (ys r)
def vC : Nat -> List UInt8 -> Except (Nat × List UInt8) (List (List UInt8 × List UInt8))
 | 0,_ => .ok []
 | n + 1,r => match skp r with
  | .error f => .error (2,f)
  | .ok [] => .ok [([],[])]
  | .ok (c :: r') => match xp (c :: r') with
   | .error e => .error (e,c :: r')
   | .ok w => match vC n ((c :: r').drop w.length) with
    | .error x => .error x
    | .ok l => .ok ((w,c :: r') :: l)
def xS (r : List UInt8) : Except (Nat × List UInt8) (List (List UInt8 × List UInt8)) := vC (r.length + 1) r
theorem bB (d : Nat) : cmt d [] = none := by simp [cmt]
theorem gv (d : Nat) (a b : UInt8) (r : List UInt8) : cmt d (a :: b :: r) = if a = 40 /\ b = 42 then cmt (d + 1) r else if a = 42 /\ b = 41 then (if d <= 1 then some r else cmt (d - 1) r) else cmt d (b :: r) := by
 rw [cmt]
theorem uY : ∀ (n d : Nat) (r r' : List UInt8),r.length <= n -> cmt d r = some r' -> ∃ p : List UInt8,r = p ++ r' /\ 2 <= p.length
 | 0,d,r,r',hn,h => by
  cases r with
  | nil => simp [cmt] at h
  | cons a r => simp at hn
 | n + 1,d,[],r',hn,h => by simp [cmt] at h
 | n + 1,d,[a],r',hn,h => by simp [cmt] at h
 | n + 1,d,a :: b :: r,r',hn,h => by
  rw [gv] at h; simp only [List.length_cons] at hn
  split at h
  ·obtain ⟨p,hp,_⟩ := uY n _ r r' (by omega) h
   exact ⟨a :: b :: p,by simp [hp],by simp⟩
  ·split at h
   ·split at h
    ·simp only [Option.some.injEq] at h
     exact ⟨[a,b],by simp [h],by simp⟩
    ·obtain ⟨p,hp,_⟩ := uY n _ r r' (by omega) h
     exact ⟨a :: b :: p,by simp [hp],by simp⟩
   ·obtain ⟨p,hp,_⟩ := uY n _ (b :: r) r' (by simp; omega) h
    exact ⟨a :: p,by simp [hp],by simp; omega⟩
theorem uq {d : Nat} {r r' : List UInt8} (h : cmt d r = some r') : ∃ p : List UInt8,r = p ++ r' /\ 2 <= p.length := uY r.length d r r' (Nat.le_refl _) h
theorem dj : ∀ (n m : Nat) (r : List UInt8),r.length <= n -> r.length <= m -> xn n r = xn m r
 | 0,m,[],_,_ => by cases m <;> simp [xn]
 | n + 1,m,[],_,_ => by cases m <;> simp [xn]
 | 0,m,c :: r,h,_ => by simp at h
 | n + 1,0,c :: r,_,h => by simp at h
 | n + 1,m + 1,c :: r,h1,h2 => by
  simp only [List.length_cons] at h1 h2; rw [xn,xn]
  split
  ·exact dj n m r (by omega) (by omega)
  ·split
   ·split
    ·rfl
    ·rename_i r' hc
     obtain ⟨p,hp,_⟩ := uq hc
     have hlen : (c :: r).length = p.length + r'.length := by rw [hp]; simp
     simp only [List.length_cons] at hlen
     exact dj n m r' (by omega) (by omega)
   ·rfl
theorem mB {c : UInt8} {r : List UInt8} (h : vM c.toNat = true) : skp (c :: r) = skp r := by
 show xn (r.length + 1) (c :: r) = xn r.length r
 rw [xn,if_pos h]
theorem iO {c : UInt8} {r : List UInt8} (h : vM c.toNat = false) (hs : zM (c :: r) 40 42 = true) (hc : cmt 0 (c :: r) = none) : skp (c :: r) = .error (c :: r) := by
 show xn (r.length + 1) (c :: r) = _
 rw [xn,if_neg (by simp [h]),if_pos hs,hc]
theorem iV {c : UInt8} {r r' : List UInt8} (h : vM c.toNat = false) (hs : zM (c :: r) 40 42 = true) (hc : cmt 0 (c :: r) = some r') : skp (c :: r) = skp r' := by
 show xn (r.length + 1) (c :: r) = xn r'.length r'
 rw [xn,if_neg (by simp [h]),if_pos hs,hc]; obtain ⟨p,d,_⟩ := uq hc
 have b : (c :: r).length = p.length + r'.length := by rw [d]; simp
 simp only [List.length_cons] at b
 exact dj _ _ r' (by omega) (by omega)
theorem ij {c : UInt8} {r : List UInt8} (h : vM c.toNat = false) (hs : zM (c :: r) 40 42 = false) : skp (c :: r) = .ok (c :: r) := by
 show xn (r.length + 1) (c :: r) = _
 rw [xn,if_neg (by simp [h]),if_neg (by simp [hs])]
theorem jc : ∀ (n : Nat) (r r' : List UInt8),xn n r = .ok r' -> ∃ p : List UInt8,r = p ++ r'
 | 0,r,r',h => ⟨[],by simp [xn] at h; simp [h]⟩
 | n + 1,[],r',h => ⟨[],by simp [xn] at h; simp [h]⟩
 | n + 1,c :: r,r',h => by
  rw [xn] at h
  split at h
  ·obtain ⟨p,hp⟩ := jc n r r' h
   exact ⟨c :: p,by simp [hp]⟩
  ·split at h
   ·split at h
    ·simp at h
    ·rename_i r1 hc
     obtain ⟨p,hp,_⟩ := uq hc; obtain ⟨p2,hp2⟩ := jc n r1 r' h
     exact ⟨p ++ p2,by rw [hp,hp2]; simp⟩
   ·simp only [Except.ok.injEq] at h
    exact ⟨[],by simp [h]⟩
theorem ja {r r' : List UInt8} (h : skp r = .ok r') : ∃ p : List UInt8,r = p ++ r' := jc _ r r' h
set_option maxHeartbeats 400000
theorem yx (r : Int) (w : World) :
  Calls Tryz.prog 128 #[.int .i32 r] w fun e w' => e = .returned (.bool (zG r)) /\ w' = w := by
 by_cases c : 97 <= r
 ·by_cases d : r <= 122
  ·have b : zG r = true := by simp [zG]; omega
   rw [b]
   go_enter Tryz.func128,Tryz.ntmps128
   go_wp2
   go_ret
   first | exact ⟨rfl,rfl⟩ | (refine ⟨?_,rfl⟩; simp; omega)
  ·have b : zG r = false := by simp [zG]; omega
   rw [b]
   go_enter Tryz.func128,Tryz.ntmps128
   go_wp2
   go_ret
   first | exact ⟨rfl,rfl⟩ | (refine ⟨?_,rfl⟩; simp; omega)
 ·by_cases f : 65 <= r
  ·by_cases g : r <= 90
   ·have b : zG r = true := by simp [zG]; omega
    rw [b]
    go_enter Tryz.func128,Tryz.ntmps128
    go_wp2
    go_ret
    first | exact ⟨rfl,rfl⟩ | (refine ⟨?_,rfl⟩; simp; omega)
   ·have b : zG r = false := by simp [zG]; omega
    rw [b]
    go_enter Tryz.func128,Tryz.ntmps128
    go_wp2
    go_ret
    first | exact ⟨rfl,rfl⟩ | (refine ⟨?_,rfl⟩; simp; omega)
  ·have b : zG r = false := by simp [zG]; omega
   rw [b]
   go_enter Tryz.func128,Tryz.ntmps128
   go_wp2
   go_ret
   first | exact ⟨rfl,rfl⟩ | (refine ⟨?_,rfl⟩; simp; omega)
theorem yH (r : Int) (w : World) :
  Calls Tryz.prog 132 #[.int .i32 r] w fun e w' => e = .returned (.bool (zx r)) /\ w' = w := by
 by_cases c : 48 <= r
 ·by_cases d : r <= 57
  ·have b : zx r = true := by simp [zx]; omega
   rw [b]
   go_enter Tryz.func132,Tryz.ntmps132
   go_wp2
   go_ret
   first | exact ⟨rfl,rfl⟩ | (refine ⟨?_,rfl⟩; simp; omega)
  ·have b : zx r = false := by simp [zx]; omega
   rw [b]
   go_enter Tryz.func132,Tryz.ntmps132
   go_wp2
   go_ret
   first | exact ⟨rfl,rfl⟩ | (refine ⟨?_,rfl⟩; simp; omega)
 ·have b : zx r = false := by simp [zx]; omega
  rw [b]
  go_enter Tryz.func132,Tryz.ntmps132
  go_wp2
  go_ret
  first | exact ⟨rfl,rfl⟩ | (refine ⟨?_,rfl⟩; simp; omega)
theorem nC (r : Int) (w : World) :
  Calls Tryz.prog 130 #[.int .i32 r] w fun e w' => e = .returned (.bool (lod r)) /\ w' = w := by
 show Calls Tryz.prog 130 #[.int .i32 r] w fun e w' => e = .returned (.bool (zG r || zx r)) /\ w' = w
 cases b : zG r
 ·go_enter Tryz.func130,Tryz.ntmps130
  go_wp2_with (first | (go_at_call 128; refine (yx _ _).mono ?_; rintro e w' ⟨rfl,rfl⟩; simp only [b]) | (go_at_call 132; refine (yH _ _).mono ?_; rintro e w' ⟨rfl,rfl⟩))
  go_ret
  exact ⟨by simp,rfl⟩
 ·go_enter Tryz.func130,Tryz.ntmps130
  go_wp2_with (first | (go_at_call 128; refine (yx _ _).mono ?_; rintro e w' ⟨rfl,rfl⟩; simp only [b]) | (go_at_call 132; refine (yH _ _).mono ?_; rintro e w' ⟨rfl,rfl⟩))
  go_ret
  exact ⟨by simp,rfl⟩
theorem jW (r : Int) (w : World) :
  Calls Tryz.prog 124 #[.int .u8 r] w fun e w' => e = .returned (.bool (vM r)) /\ w' = w := by
 by_cases b : r = 32
 ·subst b
  go_enter Tryz.func124,Tryz.ntmps124
  go_wp2
  go_ret
  exact ⟨rfl,rfl⟩
 ·have g : (r == 32) = false := by simp [b]
  by_cases c : r = 9
  ·subst c
   go_enter Tryz.func124,Tryz.ntmps124
   go_wp2
   go_ret
   exact ⟨rfl,rfl⟩
  ·have h : (r == 9) = false := by simp [c]
   by_cases d : r = 13
   ·subst d
    go_enter Tryz.func124,Tryz.ntmps124
    go_wp2
    go_ret
    exact ⟨rfl,rfl⟩
   ·have i : (r == 13) = false := by simp [d]
    have f : vM r = (r == 10) := by simp [vM,b,c,d]; rfl
    rw [f]; clear f b c d
    go_enter Tryz.func124,Tryz.ntmps124
    go_wp2
    go_ret
    exact ⟨rfl,rfl⟩
theorem vr (s : ByteArray) : s.toList = s.data.toList := Lib.toList_data s
theorem yK (s : ByteArray) (k : Nat) : (s.extract k s.size).data.toList = s.data.toList.drop k := Lib.extract_to_end s k
theorem je (s : ByteArray) (k : Nat) : (s.extract 0 k).data.toList = s.data.toList.take k := by rw [Lib.extract_data]; simp
theorem zD (s : ByteArray) : s.size = s.data.toList.length := Lib.size_eq s
theorem kg (s : ByteArray) (a b : UInt8) (w : World) (hs : s.size <= maxLen) :
  Calls Tryz.prog 125 #[.string s,.string ⟨#[a,b]⟩] w fun e w' => e = .returned (.bool (zM s.data.toList a b)) /\ w' = w := by
 unfold maxLen at hs
 by_cases c : 2 <= s.size
 ·go_enter Tryz.func125,Tryz.ntmps125
  go_wp2
  go_ret
  exact ⟨by simp [zM,vr],rfl⟩
 ·have d : zM s.data.toList a b = false := by
   unfold zM
   rw [beq_eq_false_iff_ne]; intro h; have := congrArg List.length h; rw [zD] at c; simp only [List.length_take,List.length_cons,List.length_nil] at this
   omega
  rw [d]
  have f : s.size < 2 := by omega
  clear c d
  go_enter Tryz.func125,Tryz.ntmps125
  go_wp2
  go_ret
  exact ⟨rfl,rfl⟩
theorem xc (b : Nat) (s : ByteArray) (k : Nat) (w : World) (_hs : s.size <= maxLen) (hk : k <= s.size)
  (c0 : w.cell? ⟨b,0,none⟩ = some (.string s)) (c1 : w.cell? ⟨b,1,none⟩ = some (.int .i64 k)) :
  Calls Tryz.prog 126 #[.pointer (some ⟨b,0,none⟩)] w fun e w' => e = .returned (.string (s.extract k s.size)) /\ ∃ n,w' = w.drewN n := by
 unfold maxLen at _hs
 go_enter Tryz.func126,Tryz.ntmps126
 go_wp2
 go_quiet (fail)
 go_wp2
 go_ret
 exact ⟨rfl,_,rfl⟩
abbrev pq (b : Nat) : Value := .pointer (some ⟨b,0,none⟩)
set_option maxHeartbeats 1000000
set_option maxRecDepth 1000000
theorem zc {p : Prop} (h : p) : Hid p := h
theorem vl {p : Prop} (h : Hid p) : p := h
theorem yS (w : World) (s : ByteArray) (k : Nat) : w.grownBy (w.iter s k) none := World.grownBy_alloc w _ none
theorem pW {n : Int} (h : 128 <= n) : lod n = false := by simp [lod,zG,zx]; omega
theorem ui {n : Int} (h : 128 <= n) : zx n = false := by simp [zx]; omega
theorem jL (p : UInt8 -> Bool) : ∀ (l : List UInt8) (k : Nat),k <= l.length -> (∀ j (h : j < l.length),j < k -> p l[j] = true) -> (∀ h : k < l.length,p l[k] = false) -> l.takeWhile p = l.take k
 | [],k,_,_,_ => by simp
 | a :: l,0,_,_,h2 => by
  have := h2 (by simp); simp only [List.getElem_cons_zero] at this
  simp [List.takeWhile,this]
 | a :: l,k + 1,hk,h1,h2 => by
  have ha := h1 0 (by simp) (by omega); simp only [List.getElem_cons_zero] at ha; simp only [List.takeWhile,ha,List.take_succ_cons]; rw [jL p l k (by simpa using hk) (fun j h hj => h1 (j + 1) (by simpa using h) (by omega)) (fun h => h2 (by simpa using h))]
theorem jK {p : Int -> Bool} (s : ByteArray) (k : Nat) (hk : k <= s.size) (h1 : ∀ (j : Nat) (h : j < s.size),j < k -> p (s[j]'h).toNat = true) (h2 : ∀ h : k < s.size,p (s[k]'h).toNat = false) : yb p s.data.toList = s.data.toList.take k := by
 refine jL _ _ _ (by rw [<- zD]; exact hk) (fun j h hj => ?_) (fun h => ?_)
 ·exact h1 j (by rw [zD]; exact h) hj
 ·exact h2 (by rw [zD]; exact h)
theorem qc {p : Int -> Bool} (s : ByteArray) (k : Nat) (hk : k <= s.size) (h1 : ∀ (j : Nat) (h : j < s.size),j < k -> p (s[j]'h).toNat = true) (h2 : ¬ k < s.size) : yb p s.data.toList = s.data.toList := by
 rw [jK s k hk h1 (fun h => absurd h h2),List.take_of_length_le]; rw [<- zD]; omega
theorem sz (s : ByteArray) (c : UInt8) (w : World) :
  Calls Tryz.prog 168 #[.string s,.int .u8 c.toNat] w fun e w' => e = .returned (.int .i64 (Lib.indexByte s.data.toList c)) /\ w' = w := by
 have hx := @run_callFunc_extern Tryz.prog 209 _ _ Tryz.func209 (by kernel_rfl) (by kernel_rfl) (by kernel_rfl) rfl
 have hy := fun w => Lib.run_indexByteString (P := Tryz.prog) s c.toNat w
 simp only [Int.toNat_natCast,Nat.toUInt8_eq,UInt8.ofNat_toNat] at hy
 go_enter Tryz.func168,Tryz.ntmps168
 go_wp2
 go_ret
 exact ⟨rfl,rfl⟩
theorem jS (p : Value) (k n : Int) (w : World) :
  Calls Tryz.prog 131 #[p,.int .i64 k,.int .i64 n] w fun e w' => e = .panicked [{ v := .iface 103 (pq w.heap.size),recovered := false }] /\ w' = w.alloc (.cells #[.int .i64 0,.int .i64 k,.iface 56 (.int .i64 n)] 113) := by
 go_enter Tryz.func131,Tryz.ntmps131
 go_wp2
 exact ⟨rfl,rfl,rfl⟩
theorem pk (s : ByteArray) (w : World) (_hs : s.size <= maxLen) :
  Calls Tryz.prog 129 #[.string s,.func (.func 130) #[] #[]] w fun e w' => ∃ x : ByteArray,e = .returned (.string x) /\ x.data.toList = yb lod s.data.toList /\ w.grownBy w' none := by
 unfold maxLen at _hs
 go_enter Tryz.func129,Tryz.ntmps129
 go_wp2
 go_loopw [6] (fun _ wr => ∃ k : Nat,wr = w.iter s k /\ k <= s.size /\ ∀ (j : Nat) (h : j < s.size),j < k -> lod (s[j]'h).toNat = true) (fun _ wr => s.size - wr.iterPos w.heap.size)
 case atStart => exact ⟨0,rfl,Nat.zero_le _,fun j h hj => by omega⟩
 case round =>
  obtain ⟨k,rfl,hk,HB⟩ := hrel; have HB' := zc HB; clear HB
  by_cases hlt : k < s.size
  ·have hnx : ∀ ty,(Instr.next (pq w.heap.size) true ty).run Tryz.prog (w.iter s k) = _ := fun ty => run_next_any w s k ty hlt
   cases hp : lod (s[k]'hlt).toNat
   ·have hno : lod (Utf8.decode s k).1 = false := by
     by_cases ha : (s[k]'hlt).toNat < 128
     ·rw [decode_ascii s k hlt ha]; exact hp
     ·exact pW (by have := (decode_high s k hlt (by omega)).1; omega)
    have Hp := zc hp; clear hp
    go_wp2_with (go_at_call 130; refine (nC _ _).mono ?_; rintro e w' ⟨rfl,rfl⟩; simp only [hno])
    go_ret
    exact ⟨_,rfl,by rw [je]; exact (jK s k hk (vl HB') (fun h => vl Hp)).symm,yS w s _⟩
   ·have ha : (s[k]'hlt).toNat < 128 := by
     rcases Nat.lt_or_ge (s[k]'hlt).toNat 128 with h | h
     ·exact h
     ·rw [pW (by omega)] at hp; cases hp
    rw [decode_ascii s k hlt ha] at hnx; have hyes : lod ((s[k]'hlt).toNat : Nat) = true := hp; have Hp := zc hp; clear hp
    go_wp2_with (go_at_call 130; refine (nC _ _).mono ?_; rintro e w' ⟨rfl,rfl⟩; simp only [hyes])
    go_roundw
    case rel => exact ⟨k + 1,rfl,by omega,fun j h hj => by
     rcases Nat.lt_or_ge j k with h1 | h1
     ·exact vl HB' j h h1
     ·obtain rfl : j = k := by omega
      exact vl Hp⟩
    case measure => simp; omega
  ·have hnx : ∀ ty,(Instr.next (pq w.heap.size) true ty).run Tryz.prog (w.iter s k) = _ := fun ty => run_next_end w s k ty hlt
   go_wp2
   go_ret
   exact ⟨_,rfl,(qc s k hk (vl HB') hlt).symm,yS w s _⟩
theorem fq (s : ByteArray) (w : World) (_hs : s.size <= maxLen) :
  Calls Tryz.prog 129 #[.string s,.func (.func 132) #[] #[]] w fun e w' => ∃ x : ByteArray,e = .returned (.string x) /\ x.data.toList = yb zx s.data.toList /\ w.grownBy w' none := by
 unfold maxLen at _hs
 go_enter Tryz.func129,Tryz.ntmps129
 go_wp2
 go_loopw [6] (fun _ wr => ∃ k : Nat,wr = w.iter s k /\ k <= s.size /\ ∀ (j : Nat) (h : j < s.size),j < k -> zx (s[j]'h).toNat = true) (fun _ wr => s.size - wr.iterPos w.heap.size)
 case atStart => exact ⟨0,rfl,Nat.zero_le _,fun j h hj => by omega⟩
 case round =>
  obtain ⟨k,rfl,hk,HB⟩ := hrel; have HB' := zc HB; clear HB
  by_cases hlt : k < s.size
  ·have hnx : ∀ ty,(Instr.next (pq w.heap.size) true ty).run Tryz.prog (w.iter s k) = _ := fun ty => run_next_any w s k ty hlt
   cases hp : zx (s[k]'hlt).toNat
   ·have hno : zx (Utf8.decode s k).1 = false := by
     by_cases ha : (s[k]'hlt).toNat < 128
     ·rw [decode_ascii s k hlt ha]; exact hp
     ·exact ui (by have := (decode_high s k hlt (by omega)).1; omega)
    have Hp := zc hp; clear hp
    go_wp2_with (go_at_call 132; refine (yH _ _).mono ?_; rintro e w' ⟨rfl,rfl⟩; simp only [hno])
    go_ret
    exact ⟨_,rfl,by rw [je]; exact (jK s k hk (vl HB') (fun h => vl Hp)).symm,yS w s _⟩
   ·have ha : (s[k]'hlt).toNat < 128 := by
     rcases Nat.lt_or_ge (s[k]'hlt).toNat 128 with h | h
     ·exact h
     ·rw [ui (by omega)] at hp; cases hp
    rw [decode_ascii s k hlt ha] at hnx; have hyes : zx ((s[k]'hlt).toNat : Nat) = true := hp; have Hp := zc hp; clear hp
    go_wp2_with (go_at_call 132; refine (yH _ _).mono ?_; rintro e w' ⟨rfl,rfl⟩; simp only [hyes])
    go_roundw
    case rel => exact ⟨k + 1,rfl,by omega,fun j h hj => by
     rcases Nat.lt_or_ge j k with h1 | h1
     ·exact vl HB' j h h1
     ·obtain rfl : j = k := by omega
      exact vl Hp⟩
    case measure => simp; omega
  ·have hnx : ∀ ty,(Instr.next (pq w.heap.size) true ty).run Tryz.prog (w.iter s k) = _ := fun ty => run_next_end w s k ty hlt
   go_wp2
   go_ret
   exact ⟨_,rfl,(qc s k hk (vl HB') hlt).symm,yS w s _⟩
theorem qd (s : ByteArray) (k : Nat) (h : k < s.size) : s.data.toList.drop k = s[k] :: s.data.toList.drop (k + 1) := by
 rw [List.drop_eq_getElem_cons (by rw [<- zD]; exact h)]; rfl
theorem dC {v : Int} {c : UInt8} {l : List UInt8} (h : (2147483647 - ((c.toNat : Int) - 48)) / 10 < v) : zU v (c :: l) = none := by
 rw [zU,if_pos h]
theorem tS {v : Int} {c : UInt8} {l : List UInt8} (h : ¬ (2147483647 - ((c.toNat : Int) - 48)) / 10 < v) : zU v (c :: l) = zU (v * 10 + ((c.toNat : Int) - 48)) l := by
 rw [zU,if_neg h]
def kU : Option Int -> Ending
 | none => .returned (.tuple #[.int .i64 0,.bool false])
 | some v => .returned (.tuple #[.int .i64 v,.bool true])
theorem qy (s : ByteArray) (w : World) (_hs : s.size <= maxLen) (hne : s.data.toList.isEmpty = false)
  (hd : ∀ (j : Nat) (h : j < s.size),zx (s[j]'h).toNat = true) :
  Calls Tryz.prog 133 #[.string s] w fun e w' => e = kU (zU 0 s.data.toList) /\ w.grownBy w' none := by
 unfold maxLen at _hs
 have HD := zc hd; have HE := zc hne
 have hemp : (s.toList == []) = false := by rw [vr]; cases h : s.data.toList with | nil => rw [h] at hne; cases hne | cons a l => rfl
 clear hd hne
 go_enter Tryz.func133,Tryz.ntmps133
 go_wp2
 go_loopw [2] (fun v wr => ∃ (k : Nat) (n : Int),wr = w.iter s k /\ k <= s.size /\ v = .int .i64 n /\ 0 <= n /\ n <= 2147483647 /\ Hid (zU n (s.data.toList.drop k) = zU 0 s.data.toList)) (fun _ wr => s.size - wr.iterPos w.heap.size)
 case atStart => exact ⟨0,0,rfl,Nat.zero_le _,rfl,by omega,by omega,rfl⟩
 case round =>
  obtain ⟨k,n,rfl,_,rfl,_,_,HB⟩ := hrel
  by_cases hlt : k < s.size
  ·have hdk := vl HD k hlt
   have hb1 : 48 <= ((s[k]'hlt).toNat : Int) := by simp [zx] at hdk; omega
   have hb2 : ((s[k]'hlt).toNat : Int) <= 57 := by simp [zx] at hdk; omega
   have hnx : ∀ ty,(Instr.next (pq w.heap.size) true ty).run Tryz.prog (w.iter s k) = _ := fun ty => run_next_ascii w s k ty hlt (by omega)
   have HX := HB.out; rw [qd s k hlt] at HX
   by_cases hv : (2147483647 - (((s[k]'hlt).toNat : Int) - 48)) / 10 < n
   ·rw [dC hv] at HX
    have H2 := zc HX; clear HX HB HD HE
    go_wp2_with (go_at_call 132; refine (yH _ _).mono ?_; rintro e w' ⟨rfl,rfl⟩; simp only [hdk])
    go_ret2
    exact ⟨by rw [<- H2.out]; rfl,yS w s _⟩
   ·rw [tS hv] at HX
    have H2 := zc HX; clear HX HB
    go_wp2_with (go_at_call 132; refine (yH _ _).mono ?_; rintro e w' ⟨rfl,rfl⟩; simp only [hdk])
    go_roundw
    case rel => exact ⟨k + 1,n * 10 + (((s[k]'hlt).toNat : Int) - 48),rfl,by omega,rfl,by omega,by omega,H2⟩
    case measure => simp; omega
  ·have hnx : ∀ ty,(Instr.next (pq w.heap.size) true ty).run Tryz.prog (w.iter s k) = _ := fun ty => run_next_end w s k ty hlt
   have HX := HB.out; rw [List.drop_eq_nil_of_le (by rw [<- zD]; omega)] at HX; have H2 := zc HX; clear HX HB HD HE; go_wp2
   go_ret2
   exact ⟨by rw [<- H2.out]; rfl,yS w s _⟩
theorem jP (s : ByteArray) (a b : UInt8) : ((s.extract 0 2).toList == [a,b]) = zM s.data.toList a b := by
 rw [vr,je]; rfl
theorem tZ (l : List UInt8) (c : UInt8) : -1 <= Lib.indexByte l c := by
 induction l with
 | nil => simp [Lib.indexByte]
 | cons a l ih =>
  rw [Lib.indexByte]
  split
  ·omega
  ·split
   ·omega
   ·omega
theorem vy (l : List UInt8) (c : UInt8) : (0 <= Lib.indexByte l c) ↔ l.contains c = true := by
 induction l with
 | nil => simp [Lib.indexByte]
 | cons a l ih =>
  have hg := tZ l c; rw [Lib.indexByte,List.contains_cons]
  by_cases h : a = c
  ·subst h; simp
  ·have h1 : (a == c) = false := by simpa using h
   have h2 : (c == a) = false := by simpa using fun e => h e.symm
   rw [h1,h2]; simp only [Bool.false_eq_true,if_false,Bool.false_or]; rw [<- ih]
   by_cases hi : Lib.indexByte l c = -1
   ·simp [hi]
   ·have : (Lib.indexByte l c == -1) = false := by simpa using hi
    rw [this]; simp only [Bool.false_eq_true,if_false]
    omega
theorem uT : (⟨#[61,35,60,62,43,45,42,38,126,40,41,91,93,123,125,44,59,58,46,94]⟩ : ByteArray).data.toList = jZ := rfl
theorem jV (s : ByteArray) (h : 0 < s.size) : s.data.toList.headD 0 = s[0] /\ s.data.toList.take 1 = [s[0]] := by
 have := qd s 0 h; simp only [List.drop_zero] at this; rw [this]; simp
theorem tW {l : List UInt8} {a b : UInt8} (h : l.length < 2) : zM l a b = false := by
 unfold zM
 rw [beq_eq_false_iff_ne]; intro e; have := congrArg List.length e; simp only [List.length_take,List.length_cons,List.length_nil] at this
 omega
theorem rP (s : ByteArray) (w : World) (hs : s.size <= maxLen) (h0 : 0 < s.size) :
  Calls Tryz.prog 134 #[.string s] w fun e w' => ∃ x : ByteArray,e = .returned (.string x) /\ x.data.toList = ys s.data.toList /\ w' = w := by
 unfold maxLen at hs
 obtain ⟨hh,ht⟩ := jV s h0
 have key : (zM s.data.toList 58 61 || zM s.data.toList 60 61 || zM s.data.toList 62 61) = false -> (ys s.data.toList = if jZ.contains s[0] then [s[0]] else []) := by
  intro h
  unfold ys
  rw [h,hh,ht]
  simp
 have hone : (s.extract 0 1).data.toList = [s[0]] := by rw [je,ht]
 by_cases h2 : 1 < s.size
 ·cases e1 : zM s.data.toList 58 61
  ·cases e2 : zM s.data.toList 60 61
   ·cases e3 : zM s.data.toList 62 61
    ·have key2 := key (by simp [e1,e2,e3])
     rw [<- jP] at e1 e2 e3; cases hc : jZ.contains s[0]
     ·have key2 : ys s.data.toList = [] := by rw [key2,hc]; rfl
      have hn : ¬ (0 : Int) <= Lib.indexByte jZ s[0] := by rw [vy,hc]; simp
      have K := zc key2; clear key key2 hh ht hone hc
      go_enter Tryz.func134,Tryz.ntmps134
      go_wp2_with (go_at_call 168; refine (sz _ _ _).mono ?_; rintro e w' ⟨rfl,rfl⟩; rw [uT])
      go_ret
      exact ⟨_,rfl,by rw [K.out],rfl⟩
     ·have key2 : ys s.data.toList = [s[0]] := by rw [key2,hc]; rfl
      have hn : (0 : Int) <= Lib.indexByte jZ s[0] := by rw [vy,hc]
      have K := zc key2; have K1 := zc hone; clear key key2 hh ht hone hc
      go_enter Tryz.func134,Tryz.ntmps134
      go_wp2_with (go_at_call 168; refine (sz _ _ _).mono ?_; rintro e w' ⟨rfl,rfl⟩; rw [uT])
      go_ret
      exact ⟨_,rfl,by rw [K.out]; exact K1.out,rfl⟩
    ·have K : Hid (ys s.data.toList = s.data.toList.take 2) := by unfold ys; rw [if_pos (by simp [e1,e2,e3])]; rfl
     rw [<- jP] at e1 e2 e3; clear key hh ht hone
     go_enter Tryz.func134,Tryz.ntmps134
     go_wp2
     go_ret
     exact ⟨_,rfl,by rw [K.out]; exact je _ _,rfl⟩
   ·have K : Hid (ys s.data.toList = s.data.toList.take 2) := by unfold ys; rw [if_pos (by simp [e1,e2])]; rfl
    rw [<- jP] at e1 e2; clear key hh ht hone
    go_enter Tryz.func134,Tryz.ntmps134
    go_wp2
    go_ret
    exact ⟨_,rfl,by rw [K.out]; exact je _ _,rfl⟩
  ·have K : Hid (ys s.data.toList = s.data.toList.take 2) := by unfold ys; rw [if_pos (by simp [e1])]; rfl
   rw [<- jP] at e1; clear key hh ht hone
   go_enter Tryz.func134,Tryz.ntmps134
   go_wp2
   go_ret
   exact ⟨_,rfl,by rw [K.out]; exact je _ _,rfl⟩
 ·have hl : s.data.toList.length < 2 := by rw [<- zD]; omega
  have key2 := key (by simp [tW hl]); cases hc : jZ.contains s[0]
  ·have key2 : ys s.data.toList = [] := by rw [key2,hc]; rfl
   have hn : ¬ (0 : Int) <= Lib.indexByte jZ s[0] := by rw [vy,hc]; simp
   have K := zc key2; clear key key2 hh ht hone hc hl
   go_enter Tryz.func134,Tryz.ntmps134
   go_wp2_with (go_at_call 168; refine (sz _ _ _).mono ?_; rintro e w' ⟨rfl,rfl⟩; rw [uT])
   go_ret
   exact ⟨_,rfl,by rw [K.out],rfl⟩
  ·have key2 : ys s.data.toList = [s[0]] := by rw [key2,hc]; rfl
   have hn : (0 : Int) <= Lib.indexByte jZ s[0] := by rw [vy,hc]
   have K := zc key2; have K1 := zc hone; clear key key2 hh ht hone hc hl
   go_enter Tryz.func134,Tryz.ntmps134
   go_wp2_with (go_at_call 168; refine (sz _ _ _).mono ?_; rintro e w' ⟨rfl,rfl⟩; rw [uT])
   go_ret
   exact ⟨_,rfl,by rw [K.out]; exact K1.out,rfl⟩
structure Sc (w : World) (b : Nat) (s : ByteArray) (k : Nat) : Prop where
 c0 : w.cell? ⟨b,0,none⟩ = some (.string s)
 c1 : w.cell? ⟨b,1,none⟩ = some (.int .i64 k)
 f1 : w.frozen? ⟨b,1,none⟩ = false
def atOf (w : World) (b : Nat) : Nat := match w.cell? ⟨b,1,none⟩ with | some v => (intOf v).toNat | none => 0
theorem Sc.atOf {w : World} {b : Nat} {s : ByteArray} {k : Nat} (h : Sc w b s k) : atOf w b = k := by
 unfold Proofs.YtnmkffjklpfflaaGreatDoor.atOf; rw [h.c1]; rfl
theorem Sc.drewN {w : World} {b : Nat} {s : ByteArray} {k : Nat} (h : Sc w b s k) (n : Nat) : Sc (w.drewN n) b s k := ⟨by simpa using h.c0,by simpa using h.c1,by simpa using h.f1⟩
theorem Sc.set {w : World} {b : Nat} {s : ByteArray} {k : Nat} (h : Sc w b s k) (k' : Nat) : Sc (w.setCell ⟨b,1,none⟩ (.int .i64 k')) b s k' :=
 ⟨by rw [World.cell?_setCell_other _ _ _ _ (by simp)]; exact h.c0,World.cell?_setCell_same _ _ _ h.c1,by rw [World.frozen?_setCell]; exact h.f1⟩
theorem Sc.setI {w : World} {b : Nat} {s : ByteArray} {k : Nat} (h : Sc w b s k) (v : Int) (k' : Nat) (hv : v = k') : Sc (w.setCell ⟨b,1,none⟩ (.int .i64 v)) b s k' := by
 subst hv; exact h.set k'
theorem Sc.lt {w : World} {b : Nat} {s : ByteArray} {k : Nat} (h : Sc w b s k) : b < w.heap.size := by
 rcases Nat.lt_or_ge b w.heap.size with h' | h'
 ·exact h'
 ·have := h.c0
  simp [World.cell?,Array.getElem?_eq_none h'] at this
theorem Sc.kept {w w' : World} {b : Nat} {s : ByteArray} {k : Nat} {row : Option Nat} (h : Sc w b s k) (hg : w.grownBy w' row) (hr : row ≠ some b) : Sc w' b s k :=
  ⟨by rw [World.cell?_of_block (w := w) (hg.block b h.lt (fun e => hr e.symm))]; exact h.c0,
   by rw [World.cell?_of_block (w := w) (hg.block b h.lt (fun e => hr e.symm))]; exact h.c1,
   by rw [World.frozen?_of_block (w := w) (hg.block b h.lt (fun e => hr e.symm))]; exact h.f1⟩
theorem zj (w : World) (row : Option Nat) : w.grownBy w row := ⟨rfl,rfl,rfl,Nat.le_refl _,fun _ _ _ => rfl⟩
theorem zq {a w : World} {row : Option Nat} (h : a.grownBy w row) (n : Nat) : a.grownBy (w.drewN n) row := ⟨h.os,h.tape,h.output,h.size,h.block⟩
theorem za {a b c : World} {row : Option Nat} (h : a.grownBy b row) (k : b.grownBy c row) : a.grownBy c row :=
 ⟨k.os.trans h.os,k.tape.trans h.tape,k.output.trans h.output,Nat.le_trans h.size k.size,fun i hi hr => (k.block i (Nat.lt_of_lt_of_le hi h.size) hr).trans (h.block i hi hr)⟩
theorem zT {a w : World} {b : Nat} (h : a.grownBy w (some b)) (o : Nat) (v : Value) : a.grownBy (w.setCell ⟨b,o,none⟩ v) (some b) :=
 za h ⟨rfl,rfl,rfl,by simp [World.setCell],fun i _ hr => Below.heap_setCell _ _ _ _ (fun e => hr (by rw [e]))⟩
theorem zh {a w : World} {row : Option Nat} (h : a.grownBy w row) (o : Obj) : a.grownBy (w.alloc o) row := za h (World.grownBy_alloc w o row)
theorem zv {a w : World} (h : a.grownBy w none) (row : Option Nat) : a.grownBy w row := ⟨h.os,h.tape,h.output,h.size,fun i hi _ => h.block i hi (by simp)⟩
def Threw (w : World) (k n : Int) (e : Ending) (w' : World) : Prop :=
 ∃ q,e = .panicked [{ v := .iface 103 (pq q),recovered := false }] /\ w.heap.size <= q /\
  w'.cell? ⟨q,0,none⟩ = some (.int .i64 0) /\ w'.cell? ⟨q,1,none⟩ = some (.int .i64 k) /\ w'.cell? ⟨q,2,none⟩ = some (.iface 56 (.int .i64 n))
theorem qI {w wr : World} {nq : Nat} {k n : Int} (h : w.heap.size <= wr.heap.size) :
  Threw w k n (.panicked [{ v := .iface 103 (pq wr.heap.size),recovered := false }]) ((wr.drewN nq).alloc (.cells #[.int .i64 0,.int .i64 k,.iface 56 (.int .i64 n)] 113)) :=
 ⟨wr.heap.size,rfl,h,by rw [World.cell?_alloc_at _ _ _ _ (by simp)]; rfl,by rw [World.cell?_alloc_at _ _ _ _ (by simp)]; rfl,by rw [World.cell?_alloc_at _ _ _ _ (by simp)]; rfl⟩
theorem br {d : Nat} {r : List UInt8} (h : zM r 40 42 = true) : cmt d r = cmt (d + 1) (r.drop 2) := by
 match r,h with
 | [],h => simp [zM] at h
 | [a],h => simp [zM] at h
 | a :: b :: r,h =>
  simp [zM] at h
  rw [gv,if_pos h]; rfl
theorem nZ {d : Nat} {r : List UInt8} (h1 : zM r 40 42 = false) (h : zM r 42 41 = true) : cmt d r = if d <= 1 then some (r.drop 2) else cmt (d - 1) (r.drop 2) := by
 match r,h with
 | [],h => simp [zM] at h
 | [a],h => simp [zM] at h
 | a :: b :: r,h =>
  simp [zM] at h h1
  rw [gv,if_neg (by intro e; exact h1 e.1 e.2),if_pos h]; rfl
theorem aR {d : Nat} {r : List UInt8} (h1 : zM r 40 42 = false) (h : zM r 42 41 = false) : cmt d r = cmt d (r.drop 1) := by
 match r with
 | [] => rfl
 | [a] => simp [cmt]
 | a :: b :: r =>
  simp [zM] at h h1
  rw [gv,if_neg (by intro e; exact h1 e.1 e.2),if_neg (by intro e; exact h e.1 e.2)]; rfl
theorem gK {r : List UInt8} {a b : UInt8} (h : zM r a b = true) : 2 <= r.length := by
 match r,h with
 | [],h => simp [zM] at h
 | [a],h => simp [zM] at h
 | a :: b :: r,h => simp
theorem qL (b : Nat) (s : ByteArray) (k0 : Nat) (w : World) (hs : s.size <= 1000000000) (hk0 : k0 <= s.size) (hsc : Sc w b s k0) (hst : zM (s.data.toList.drop k0) 40 42 = true) :
  Calls Tryz.prog 127 #[pq b] w fun e w' =>
   (∀ r',cmt 0 (s.data.toList.drop k0) = some r' -> e = .returned (.tuple #[]) /\ Sc w' b s (s.size - r'.length) /\ w.grownBy w' (some b)) /\
   (cmt 0 (s.data.toList.drop k0) = none -> Threw w k0 2 e w' /\ w.grownBy w' (some b)) := by
 have c0 := hsc.c0; have c1 := hsc.c1; have HST := zc hst; clear hst
 go_enter Tryz.func127,Tryz.ntmps127
 go_wp2; clear c0 c1
 go_loopw [3] (fun d wr => ∃ dn k : Nat,d = .int .i64 dn /\ k <= s.size /\ Sc wr b s k /\ w.grownBy wr (some b) /\ Hid (cmt dn (s.data.toList.drop k) = cmt 0 (s.data.toList.drop k0)) /\ (dn = 0 -> k = k0) /\ dn <= k) (fun _ wr => s.size - atOf wr b)
 case atStart => exact ⟨0,k0,rfl,hk0,hsc,zj _ _,rfl,fun _ => rfl,Nat.zero_le _⟩
 case round =>
  obtain ⟨dn,k,rfl,hk,hsr,hgr,HC,HZ,_⟩ := hrel; have c0 := hsr.c0; have c1 := hsr.c1; have f1 := hsr.f1; have HZ' := zc HZ; clear HZ
  have hxs : (s.extract k s.size).size <= maxLen := by unfold maxLen; rw [zD,yK,List.length_drop,<- zD]; omega
  have hsm : s.size <= maxLen := by unfold maxLen; omega
  have hea := hsr.atOf; have HSR := zc hsr; have HGR := zc hgr; clear hsr hgr
  by_cases hlt : k < s.size
  ·cases h1 : zM (s.data.toList.drop k) 40 42
   ·have hd1 : 1 <= dn := by
     rcases Nat.eq_zero_or_pos dn with h | h
     ·rw [vl HZ' h,HST.out] at h1; cases h1
     ·exact h
    cases h3 : zM (s.data.toList.drop k) 42 41
    ·have HN : Hid (cmt dn (s.data.toList.drop (k + 1)) = cmt 0 (s.data.toList.drop k0)) := by
      rw [<- HC.out,aR h1 h3,List.drop_drop]; rfl
     have hz : ((dn : Int) == 0) = false := by rw [beq_eq_false_iff_ne]; omega
     go_wp2_with fail
     go_quiet (fail)
     go_wp2_with (first | (go_at_call 126; refine (xc b s k _ hsm hk (by simpa using c0) (by simpa using c1)).mono ?_; rintro e w' ⟨rfl,nr,rfl⟩) | (go_at_call 125; refine (kg _ _ _ _ hxs).mono ?_; rintro e w' ⟨rfl,rfl⟩; simp only [yK,h1,h3]))
     all_goals
      have hS := fun n => (HSR.out.drewN n).setI ((k : Int) + 1) (k + 1) (by omega)
      exact ⟨⟨dn,k + 1,rfl,by omega,hS _,zT (zq HGR.out _) _ _,HN,fun e => by omega,by omega⟩,by rw [(hS _).atOf,hea]; omega⟩
    ·have h2 := gK h3
     rw [List.length_drop,<- zD] at h2
     by_cases hd2 : dn = 1
     ·have HN : Hid (cmt 0 (s.data.toList.drop k0) = some (s.data.toList.drop (k + 2))) := by
       rw [<- HC.out,nZ h1 h3,if_pos (by omega),List.drop_drop]; rfl
      have hz : ((dn : Int) - 1 == 0) = true := by rw [beq_iff_eq]; omega
      clear hd2; go_wp2_with fail
      go_quiet (fail)
      go_wp2_with (first | (go_at_call 126; refine (xc b s k _ hsm hk (by simpa using c0) (by simpa using c1)).mono ?_; rintro e w' ⟨rfl,nr,rfl⟩) | (go_at_call 125; refine (kg _ _ _ _ hxs).mono ?_; rintro e w' ⟨rfl,rfl⟩; simp only [yK,h1,h3]))
      have hS := fun n => (HSR.out.drewN n).setI ((k : Int) + 2) (k + 2) (by omega)
      refine bodyPost_ret (results_none rfl _ _ _) rfl ⟨fun r' hr => ?_,fun hr => ?_⟩
      ·rw [HN.out] at hr
       cases hr; refine ⟨rfl,?_,zT (zq HGR.out _) _ _⟩; rw [List.length_drop,<- zD,show s.size - (s.size - (k + 2)) = k + 2 from by omega]
       exact hS _
      ·rw [HN.out] at hr; cases hr
     ·have HN : Hid (cmt (dn - 1) (s.data.toList.drop (k + 2)) = cmt 0 (s.data.toList.drop k0)) := by
       rw [<- HC.out,nZ h1 h3,if_neg (by omega),List.drop_drop]; rfl
      have hz : ((dn : Int) - 1 == 0) = false := by rw [beq_eq_false_iff_ne]; omega
      have hd3 : 2 <= dn := by omega
      clear hd2; go_wp2_with fail
      go_quiet (fail)
      go_wp2_with (first | (go_at_call 126; refine (xc b s k _ hsm hk (by simpa using c0) (by simpa using c1)).mono ?_; rintro e w' ⟨rfl,nr,rfl⟩) | (go_at_call 125; refine (kg _ _ _ _ hxs).mono ?_; rintro e w' ⟨rfl,rfl⟩; simp only [yK,h1,h3]))
      have hS := fun n => (HSR.out.drewN n).setI ((k : Int) + 2) (k + 2) (by omega)
      exact ⟨⟨dn - 1,k + 2,by rw [show ((dn : Int) - 1) = ((dn - 1 : Nat) : Int) from by omega],by omega,hS _,zT (zq HGR.out _) _ _,HN,fun e => by omega,by omega⟩,by rw [(hS _).atOf,hea]; omega⟩
   ·have h2 := gK h1
    rw [List.length_drop,<- zD] at h2
    have HN : Hid (cmt (dn + 1) (s.data.toList.drop (k + 2)) = cmt 0 (s.data.toList.drop k0)) := by
     rw [<- HC.out,br h1,List.drop_drop]; rfl
    have hz : ((dn : Int) + 1 == 0) = false := by rw [beq_eq_false_iff_ne]; omega
    go_wp2_with fail
    go_quiet (fail)
    go_wp2_with (first | (go_at_call 126; refine (xc b s k _ hsm hk (by simpa using c0) (by simpa using c1)).mono ?_; rintro e w' ⟨rfl,nr,rfl⟩) | (go_at_call 125; refine (kg _ _ _ _ hxs).mono ?_; rintro e w' ⟨rfl,rfl⟩; simp only [yK,h1]))
    have hS := fun n => (HSR.out.drewN n).setI ((k : Int) + 2) (k + 2) (by omega)
    exact ⟨⟨dn + 1,k + 2,by go_num,by omega,hS _,zT (zq HGR.out _) _ _,HN,fun e => by omega,by omega⟩,by rw [(hS _).atOf,hea]; omega⟩
  ·have HN : Hid (cmt 0 (s.data.toList.drop k0) = none) := by
    rw [<- HC.out,List.drop_eq_nil_of_le (by rw [<- zD]; omega),bB]; rfl
   go_wp2_with fail
   go_quiet (fail)
   go_wp2_with (go_at_call 131; refine (jS _ _ _ _).mono ?_; rintro e w' ⟨rfl,rfl⟩)
   refine ⟨rfl,fun r' hr => ?_,fun _ => ⟨qI HGR.out.size,zh (zq HGR.out _) _⟩⟩; rw [HN.out] at hr; cases hr
set_option maxHeartbeats 2000000
theorem bU {r r' : List UInt8} (h : skp r = .ok r') : r'.length <= r.length := by
 obtain ⟨_,hp⟩ := ja h; rw [hp]; simp
theorem jI {l p r : List UInt8} {k : Nat} (h : l.drop k = p ++ r) (hk : k <= l.length) : l.drop (l.length - r.length) = r := by
 have hl : l.length = k + p.length + r.length := by
  have := congrArg List.length h; simp only [List.length_drop,List.length_append] at this
  omega
 rw [show l.length - r.length = k + p.length from by omega,<- List.drop_drop,h,List.drop_left]
theorem kT (b : Nat) (s : ByteArray) (k0 : Nat) (w : World) (hs : s.size <= 1000000000) (hk0 : k0 <= s.size) (hsc : Sc w b s k0) :
  Calls Tryz.prog 83 #[pq b] w fun e w' =>
   (∀ r',skp (s.data.toList.drop k0) = .ok r' -> e = .returned (.tuple #[]) /\ Sc w' b s (s.size - r'.length) /\ w.grownBy w' (some b)) /\
   (∀ f,skp (s.data.toList.drop k0) = .error f -> Threw w ((s.size - f.length : Nat) : Int) 2 e w' /\ w.grownBy w' (some b)) := by
 go_enter Tryz.func83,Tryz.ntmps83
 go_wp2
 go_loopw [12] (fun _ wr => ∃ k : Nat,k <= s.size /\ Sc wr b s k /\ w.grownBy wr (some b) /\ Hid (skp (s.data.toList.drop k) = skp (s.data.toList.drop k0))) (fun _ wr => s.size - atOf wr b)
 case atStart => exact ⟨k0,hk0,hsc,zj _ _,rfl⟩
 case round =>
  obtain ⟨k,hk,hsr,hgr,HC⟩ := hrel; have c0 := hsr.c0; have c1 := hsr.c1; have f1 := hsr.f1
  have hxs : (s.extract k s.size).size <= maxLen := by unfold maxLen; rw [zD,yK,List.length_drop,<- zD]; omega
  have hsm : s.size <= maxLen := by unfold maxLen; omega
  have hea := hsr.atOf; have HSR := zc hsr; have HGR := zc hgr; clear hsr hgr
  by_cases hlt : k < s.size
  ·have hdr := qd s k hlt
   cases hb : vM (s[k]'hlt).toNat
   ·cases h1 : zM (s.data.toList.drop k) 40 42
    ·have HN : Hid (skp (s.data.toList.drop k0) = .ok (s.data.toList.drop k)) := by
      rw [<- HC.out]; rw [hdr] at h1 ⊢; exact ij hb h1
     clear hdr HC; go_wp2_with fail
     go_quiet (fail)
     obtain ⟨w1,hw1⟩ : ∃ w1,w1 = wr.drewN nq := ⟨_,rfl⟩; rw [<- hw1]
     have hs1 : Sc w1 b s k := by rw [hw1]; exact HSR.out.drewN nq
     have hg1 : w.grownBy w1 (some b) := by rw [hw1]; exact zq HGR.out nq
     clear c0 c1 f1; have c0 := hs1.c0; have c1 := hs1.c1; have f1 := hs1.f1; have HS1 := zc hs1; have HG1 := zc hg1; clear hw1 hs1 hg1 HSR HGR; go_wp2_with fail
     go_quiet ((go_at_call 124; exact Calls.quiet_of_same (jW _ _)))
     simp only [hb]
     go_wp2_with (first | (go_at_call 126; refine (xc b s k _ hsm hk (by simpa using c0) (by simpa using c1)).mono ?_; rintro e w' ⟨rfl,nr,rfl⟩) | (go_at_call 125; refine (kg _ _ _ _ hxs).mono ?_; rintro e w' ⟨rfl,rfl⟩; simp only [yK,h1]))
     refine bodyPost_ret (results_none rfl _ _ _) rfl ⟨fun r' hr => ?_,fun f hf => ?_⟩
     ·rw [HN.out] at hr
      cases hr; refine ⟨rfl,?_,zq HG1.out _⟩; rw [List.length_drop,<- zD,show s.size - (s.size - k) = k from by omega]
      exact HS1.out.drewN _
     ·rw [HN.out] at hf; cases hf
    ·cases hcm : cmt 0 (s.data.toList.drop k) with
     | none =>
      have HN : Hid (skp (s.data.toList.drop k0) = .error (s.data.toList.drop k)) := by
       rw [<- HC.out]; rw [hdr] at h1 hcm ⊢; exact iO hb h1 hcm
      have HM := zc hcm; have H1 := zc h1; clear hdr HC hcm; go_wp2_with fail
      go_quiet (fail)
      obtain ⟨w1,hw1⟩ : ∃ w1,w1 = wr.drewN nq := ⟨_,rfl⟩; rw [<- hw1]
      have hs1 : Sc w1 b s k := by rw [hw1]; exact HSR.out.drewN nq
      have hg1 : w.grownBy w1 (some b) := by rw [hw1]; exact zq HGR.out nq
      clear c0 c1 f1; have c0 := hs1.c0; have c1 := hs1.c1; have f1 := hs1.f1; have HS1 := zc hs1; have HG1 := zc hg1; clear hw1 hs1 hg1 HSR HGR; go_wp2_with fail
      go_quiet ((go_at_call 124; exact Calls.quiet_of_same (jW _ _)))
      simp only [hb]
      go_wp2_with (first | (go_at_call 126; refine (xc b s k _ hsm hk (by simpa using c0) (by simpa using c1)).mono ?_; rintro e w' ⟨rfl,nr,rfl⟩) | (go_at_call 125; refine (kg _ _ _ _ hxs).mono ?_; rintro e w' ⟨rfl,rfl⟩; simp only [yK,h1]) | (go_at_call 127; refine (qL b s k _ hs hk (HS1.out.drewN _) H1.out).mono ?_; rintro e w' ⟨hA,hB⟩; obtain ⟨⟨q,rfl,hq,q0,q1,q2⟩,hG2⟩ := hB HM.out))
      refine ⟨rfl,fun r' hr => ?_,fun f hf => ?_⟩
      ·rw [HN.out] at hr; cases hr
      ·rw [HN.out] at hf
       cases hf; refine ⟨⟨q,rfl,Nat.le_trans (zq HG1.out _).size hq,q0,?_,q2⟩,za (zq HG1.out _) hG2⟩; rw [List.length_drop,<- zD,show s.size - (s.size - k) = k from by omega]
       exact q1
     | some r1 =>
      have HN : Hid (skp r1 = skp (s.data.toList.drop k0)) := by
       rw [<- HC.out]; rw [hdr] at h1 hcm ⊢; exact (iV hb h1 hcm).symm
      obtain ⟨p,hp,_⟩ := uq hcm; have hd2 := jI hp (by rw [<- zD]; exact hk); rw [<- zD] at hd2
      have hl1 : s.size - k = p.length + r1.length := by rw [zD,<- List.length_drop,hp,List.length_append]
      have HM := zc hcm; have H1 := zc h1; have HD2 := zc hd2; clear hdr HC hcm hp hd2; go_wp2_with fail
      go_quiet (fail)
      obtain ⟨w1,hw1⟩ : ∃ w1,w1 = wr.drewN nq := ⟨_,rfl⟩; rw [<- hw1]
      have hs1 : Sc w1 b s k := by rw [hw1]; exact HSR.out.drewN nq
      have hg1 : w.grownBy w1 (some b) := by rw [hw1]; exact zq HGR.out nq
      clear c0 c1 f1; have c0 := hs1.c0; have c1 := hs1.c1; have f1 := hs1.f1; have HS1 := zc hs1; have HG1 := zc hg1; clear hw1 hs1 hg1 HSR HGR; go_wp2_with fail
      go_quiet ((go_at_call 124; exact Calls.quiet_of_same (jW _ _)))
      simp only [hb]
      go_wp2_with (first | (go_at_call 126; refine (xc b s k _ hsm hk (by simpa using c0) (by simpa using c1)).mono ?_; rintro e w' ⟨rfl,nr,rfl⟩) | (go_at_call 125; refine (kg _ _ _ _ hxs).mono ?_; rintro e w' ⟨rfl,rfl⟩; simp only [yK,h1]) | (go_at_call 127; refine (qL b s k _ hs hk (HS1.out.drewN _) H1.out).mono ?_; rintro e w' ⟨hA,hB⟩; obtain ⟨rfl,hS2,hG2⟩ := hA _ HM.out))
      exact ⟨⟨s.size - r1.length,by omega,hS2,za (zq HG1.out _) hG2,by rw [HD2.out]; exact HN⟩,by rw [hS2.atOf,hea]; omega⟩
   ·have HN : Hid (skp (s.data.toList.drop (k + 1)) = skp (s.data.toList.drop k0)) := by
     rw [<- HC.out,hdr]; exact (mB hb).symm
    clear hdr HC; go_wp2_with fail
    go_quiet (fail)
    obtain ⟨w1,hw1⟩ : ∃ w1,w1 = wr.drewN nq := ⟨_,rfl⟩; rw [<- hw1]
    have hs1 : Sc w1 b s k := by rw [hw1]; exact HSR.out.drewN nq
    have hg1 : w.grownBy w1 (some b) := by rw [hw1]; exact zq HGR.out nq
    clear c0 c1 f1; have c0 := hs1.c0; have c1 := hs1.c1; have f1 := hs1.f1; have HS1 := zc hs1; have HG1 := zc hg1; clear hw1 hs1 hg1 HSR HGR; go_wp2_with fail
    go_quiet ((go_at_call 124; exact Calls.quiet_of_same (jW _ _)))
    simp only [hb]; go_wp2
    have hS := fun n => (HS1.out.drewN n).setI ((k : Int) + 1) (k + 1) (by omega)
    exact ⟨⟨k + 1,by omega,hS _,zT (zq HG1.out _) _ _,HN⟩,by rw [(hS _).atOf,hea]; omega⟩
  ·have HN : Hid (skp (s.data.toList.drop k0) = .ok []) := by
    rw [<- HC.out,List.drop_eq_nil_of_le (by rw [<- zD]; omega)]; rfl
   clear HC; go_wp2_with fail
   go_quiet (fail)
   go_wp2
   first | go_end0 | refine bodyPost_end (results_none rfl _ _ _) rfl ?_
   refine ⟨fun r' hr => ?_,fun f hf => ?_⟩
   ·rw [HN.out] at hr
    cases hr; refine ⟨rfl,?_,zq HGR.out _⟩
    have : s.size - ([] : List UInt8).length = k := by simp; omega
    rw [this]
    exact HSR.out.drewN _
   ·rw [HN.out] at hf; cases hf
theorem df (s : ByteArray) (k : Nat) (h : k < s.size) : (s.data.toList.drop k).headD 0 = s[k] := by rw [qd s k h]; rfl
theorem ks {p : Int -> Bool} {l : List UInt8} {c : UInt8} (h : c ∈ yb p l) : p c.toNat = true := by
 induction l with
 | nil => simp [yb] at h
 | cons a l ih =>
  unfold yb at h ih
  rw [List.takeWhile_cons] at h; cases hp : p a.toNat
  ·simp [hp] at h
  ·simp only [hp,if_true,List.mem_cons] at h
   rcases h with rfl | h
   ·exact hp
   ·exact ih h
theorem ss (x : ByteArray) (j : Nat) (h : j < x.size) : x[j] ∈ x.data.toList := by
 have : x[j] = x.data.toList[j]'(by rw [<- zD]; exact h) := rfl
 rw [this]; exact List.getElem_mem _
theorem lq {p : Int -> Bool} {l : List UInt8} {c : UInt8} (h : p c.toNat = true) : (yb p (c :: l)).isEmpty = false := by
 unfold yb; simp [h]
theorem fR (p : Int -> Bool) (l : List UInt8) : (yb p l).length <= l.length := by
 unfold yb
 induction l with
 | nil => simp
 | cons a l ih => rw [List.takeWhile_cons]; split <;> simp <;> omega
theorem ke {w wr : World} {k n : Int} (h : w.heap.size <= wr.heap.size) :
  Threw w k n (.panicked [{ v := .iface 103 (pq wr.heap.size),recovered := false }]) (wr.alloc (.cells #[.int .i64 0,.int .i64 k,.iface 56 (.int .i64 n)] 113)) :=
 ⟨wr.heap.size,rfl,h,by rw [World.cell?_alloc_at _ _ _ _ (by simp)]; rfl,by rw [World.cell?_alloc_at _ _ _ _ (by simp)]; rfl,by rw [World.cell?_alloc_at _ _ _ _ (by simp)]; rfl⟩
theorem rz (c : UInt8) : wrap32 (c.toNat : Int) = c.toNat := by
 have := c.toNat_lt; simp only [wrap32]
 omega
theorem cu (s : ByteArray) (k : Nat) (h : k < s.size) (h0 : 0 < (s.extract k s.size).size) : (s.extract k s.size)[0] = s[k] := by
 have h1 := (jV (s.extract k s.size) h0).1; rw [yK,df s k h] at h1
 exact h1.symm
theorem gO (b : Nat) (s : ByteArray) (k : Nat) (w : World) (hs : s.size <= 1000000000) (hk : k < s.size) (hsc : Sc w b s k) :
  Calls Tryz.prog 84 #[pq b] w fun e w' =>
   (∀ x,xp (s.data.toList.drop k) = .ok x -> ∃ y : ByteArray,e = .returned (.string y) /\ y.data.toList = x /\ w.grownBy w' none) /\
   (∀ n,xp (s.data.toList.drop k) = .error n -> Threw w k n e w' /\ w.grownBy w' none) := by
 have c0 := hsc.c0; have c1 := hsc.c1
 have hsm : s.size <= maxLen := by unfold maxLen; omega
 have hk' : k <= s.size := by omega
 have hxs : (s.extract k s.size).size = s.size - k := by rw [zD,yK,List.length_drop,<- zD]
 have hx0 : 0 < (s.extract k s.size).size := by omega
 have hxm : (s.extract k s.size).size <= maxLen := by unfold maxLen; omega
 have hget := cu s k hk hx0; have hw : xp (s.data.toList.drop k) = if zG (s[k]'hk).toNat then (if 12 < (yb lod (s.data.toList.drop k)).length then .error 3 else .ok (yb lod (s.data.toList.drop k)))
   else if zx (s[k]'hk).toNat then (match zU 0 (yb zx (s.data.toList.drop k)) with | none => .error 3 | some _ => .ok (yb zx (s.data.toList.drop k)))
   else if ys (s.data.toList.drop k) = [] then .error 1 else .ok (ys (s.data.toList.drop k)) := by
  unfold xp; rw [df s k hk]; try rfl
 have hw32 := rz (s[k]'hk); have HSC := zc hsc; clear hsc; cases hl : zG (s[k]'hk).toNat
 ·rw [hl,if_neg (by simp)] at hw
  cases hd : zx (s[k]'hk).toNat
  ·rw [hd,if_neg (by simp)] at hw
   cases hsg : (ys (s.data.toList.drop k)).isEmpty
   ·have hne : ys (s.data.toList.drop k) ≠ [] := by intro e; rw [e] at hsg; cases hsg
    rw [if_neg hne] at hw; have HW := zc hw; have HG := zc hsg; clear hw hxs hsg hne
    go_enter Tryz.func84,Tryz.ntmps84
    go_wp2_with (first | (go_at_call 126; refine (xc b s k _ hsm hk' c0 c1).mono ?_; rintro e w1 ⟨rfl,nr,rfl⟩) | (go_at_call 128; refine (yx _ _).mono ?_; rintro e w' ⟨rfl,rfl⟩; simp only [hl]) | (go_at_call 132; refine (yH _ _).mono ?_; rintro e w' ⟨rfl,rfl⟩; simp only [hd]))
    refine (rP _ _ hxm hx0).mono ?_; rintro e w2 ⟨y,rfl,hy,rfl⟩
    have hemp : y.toList.isEmpty = false := by rw [vr,hy,yK]; exact HG.out
    have HY := zc hy; clear hy; go_wp2
    go_ret
    refine ⟨fun x hx => ?_,fun n hn => ?_⟩
    ·rw [HW.out] at hx
     cases hx
     exact ⟨y,rfl,by rw [HY.out,yK],zq (zj _ _) _⟩
    ·rw [HW.out] at hn; cases hn
   ·have hne : ys (s.data.toList.drop k) = [] := by simpa using hsg
    rw [if_pos hne] at hw; have HW := zc hw; have HG := zc hsg; clear hw hxs hsg hne
    go_enter Tryz.func84,Tryz.ntmps84
    go_wp2_with (first | (go_at_call 126; refine (xc b s k _ hsm hk' c0 c1).mono ?_; rintro e w1 ⟨rfl,nr,rfl⟩) | (go_at_call 128; refine (yx _ _).mono ?_; rintro e w' ⟨rfl,rfl⟩; simp only [hl]) | (go_at_call 132; refine (yH _ _).mono ?_; rintro e w' ⟨rfl,rfl⟩; simp only [hd]))
    refine (rP _ _ hxm hx0).mono ?_; rintro e w2 ⟨y,rfl,hy,rfl⟩
    have hemp : y.toList.isEmpty = true := by rw [vr,hy,yK]; exact HG.out
    clear hy
    go_wp2_with (go_at_call 131; refine (jS _ _ _ _).mono ?_; rintro e w' ⟨rfl,rfl⟩)
    refine ⟨rfl,fun x hx => ?_,fun n hn => ?_⟩
    ·rw [HW.out] at hx; cases hx
    ·rw [HW.out] at hn
     cases hn
     exact ⟨qI (Nat.le_refl _),zh (zq (zj _ _) _) _⟩
  ·rw [hd,if_pos rfl] at hw
   have hne : (yb zx (s.data.toList.drop k)).isEmpty = false := by rw [qd s k hk]; exact lq hd
   cases hv : zU 0 (yb zx (s.data.toList.drop k)) with
   | none =>
    rw [hv] at hw; have HW := zc hw; have HV := zc hv; have HN := zc hne; clear hw hxs hv hne
    go_enter Tryz.func84,Tryz.ntmps84
    go_wp2_with (first | (go_at_call 126; refine (xc b s k _ hsm hk' c0 c1).mono ?_; rintro e w1 ⟨rfl,nr,rfl⟩) | (go_at_call 128; refine (yx _ _).mono ?_; rintro e w' ⟨rfl,rfl⟩; simp only [hl]) | (go_at_call 132; refine (yH _ _).mono ?_; rintro e w' ⟨rfl,rfl⟩; simp only [hd]))
    refine (fq _ _ hxm).mono ?_; rintro e w2 ⟨x,rfl,hx,hg⟩; rw [yK] at hx; have hs2 := (HSC.out.drewN nr).kept hg (by simp); have HG := zc hg; have HX := zc hx; have HS2 := zc hs2; clear hx hg hs2 c0 c1; go_wp2_with fail; refine (qy x _ (by unfold maxLen; have := congrArg List.length HX.out; rw [<- zD] at this; have h2 := fR zx (s.data.toList.drop k); rw [List.length_drop,<- zD] at h2; omega) (by rw [HX.out]; exact HN.out) (fun j h => by have := ss x j h; rw [HX.out] at this; exact ks this)).mono ?_; rintro e w3 ⟨he,hg3⟩; rw [HX.out,HV.out] at he; simp only [kU] at he; subst he; have d1 := (HS2.out.kept hg3 (by simp)).c1; have HG3 := zc hg3; clear hg3
    go_wp2_with (go_at_call 131; refine (jS _ _ _ _).mono ?_; rintro e w' ⟨rfl,rfl⟩)
    have hgg := za (za (zq (zj w none) nr) HG.out) HG3.out; refine ⟨rfl,fun x hx => ?_,fun n hn => ?_⟩
    ·rw [HW.out] at hx; cases hx
    ·rw [HW.out] at hn
     cases hn
     exact ⟨ke hgg.size,zh hgg _⟩
   | some v =>
    rw [hv] at hw; have HW := zc hw; have HV := zc hv; have HN := zc hne; clear hw hxs hv hne
    go_enter Tryz.func84,Tryz.ntmps84
    go_wp2_with (first | (go_at_call 126; refine (xc b s k _ hsm hk' c0 c1).mono ?_; rintro e w1 ⟨rfl,nr,rfl⟩) | (go_at_call 128; refine (yx _ _).mono ?_; rintro e w' ⟨rfl,rfl⟩; simp only [hl]) | (go_at_call 132; refine (yH _ _).mono ?_; rintro e w' ⟨rfl,rfl⟩; simp only [hd]))
    refine (fq _ _ hxm).mono ?_; rintro e w2 ⟨x,rfl,hx,hg⟩; rw [yK] at hx; have HG := zc hg; have HX := zc hx; clear hx hg c0 c1; go_wp2_with fail; refine (qy x _ (by unfold maxLen; have := congrArg List.length HX.out; rw [<- zD] at this; have h2 := fR zx (s.data.toList.drop k); rw [List.length_drop,<- zD] at h2; omega) (by rw [HX.out]; exact HN.out) (fun j h => by have := ss x j h; rw [HX.out] at this; exact ks this)).mono ?_; rintro e w3 ⟨he,hg3⟩; rw [HX.out,HV.out] at he; simp only [kU] at he; subst he; have HG3 := zc hg3; clear hg3; go_wp2
    go_ret
    have hgg := za (za (zq (zj w none) nr) HG.out) HG3.out; refine ⟨fun y hy => ?_,fun n hn => ?_⟩
    ·rw [HW.out] at hy
     cases hy
     exact ⟨x,rfl,HX.out,hgg⟩
    ·rw [HW.out] at hn; cases hn
 ·rw [hl,if_pos rfl] at hw
  obtain ⟨m,hm⟩ : ∃ m,m = (yb lod (s.data.toList.drop k)).length := ⟨_,rfl⟩; have HM := zc hm; rw [<- hm] at hw; clear hm
  by_cases hlen : 12 < m
  ·rw [if_pos hlen] at hw
   have HW := zc hw; clear hw hxs
   go_enter Tryz.func84,Tryz.ntmps84
   go_wp2_with (first | (go_at_call 126; refine (xc b s k _ hsm hk' c0 c1).mono ?_; rintro e w1 ⟨rfl,nr,rfl⟩) | (go_at_call 128; refine (yx _ _).mono ?_; rintro e w' ⟨rfl,rfl⟩; simp only [hl]))
   refine (pk _ _ hxm).mono ?_; rintro e w2 ⟨x,rfl,hx,hg⟩; rw [yK] at hx
   have hxl : x.size = m := by rw [zD,hx]; exact HM.out.symm
   have d1 := ((HSC.out.drewN nr).kept hg (by simp)).c1; have HG := zc hg; clear hx hg c0 c1
   go_wp2_with (go_at_call 131; refine (jS _ _ _ _).mono ?_; rintro e w' ⟨rfl,rfl⟩)
   have hgg := za (zq (zj w none) nr) HG.out; refine ⟨rfl,fun x hx => ?_,fun n hn => ?_⟩
   ·rw [HW.out] at hx; cases hx
   ·rw [HW.out] at hn
    cases hn
    exact ⟨ke hgg.size,zh hgg _⟩
  ·rw [if_neg hlen] at hw
   have HW := zc hw; clear hw hxs
   go_enter Tryz.func84,Tryz.ntmps84
   go_wp2_with (first | (go_at_call 126; refine (xc b s k _ hsm hk' c0 c1).mono ?_; rintro e w1 ⟨rfl,nr,rfl⟩) | (go_at_call 128; refine (yx _ _).mono ?_; rintro e w' ⟨rfl,rfl⟩; simp only [hl]))
   refine (pk _ _ hxm).mono ?_; rintro e w2 ⟨x,rfl,hx,hg⟩; rw [yK] at hx
   have hxl : x.size = m := by rw [zD,hx]; exact HM.out.symm
   have HG := zc hg; have HX := zc hx; clear hx hg c0 c1; go_wp2
   go_ret
   have hgg := za (zq (zj w none) nr) HG.out; refine ⟨fun y hy => ?_,fun n hn => ?_⟩
   ·rw [HW.out] at hy
    cases hy
    exact ⟨x,rfl,HX.out,hgg⟩
   ·rw [HW.out] at hn; cases hn
abbrev Toks := Except (Nat × List UInt8) (List (List UInt8 × List UInt8))
def pre (acc : List (List UInt8 × List UInt8)) : Toks -> Toks
 | .error x => .error x
 | .ok l => .ok (acc ++ l)
def dA (n : Nat) : List UInt8 -> Toks
 | [] => .ok [([],[])]
 | c :: r => match xp (c :: r) with
  | .error e => .error (e,c :: r)
  | .ok w => pre [(w,c :: r)] (vC n ((c :: r).drop w.length))
theorem vX (n : Nat) (r : List UInt8) : vC (n + 1) r = match skp r with | .error f => .error (2,f) | .ok r' => dA n r' := by
 rw [vC]; cases h : skp r with
 | error f => rfl
 | ok r' =>
  cases r' with
  | nil => rfl
  | cons c r' =>
   simp only [dA]; cases b : xp (c :: r') with
   | error e => rfl
   | ok w =>
    simp only
    cases vC n ((c :: r').drop w.length) <;> rfl
theorem bH (a b : List (List UInt8 × List UInt8)) (x : Toks) : pre a (pre b x) = pre (a ++ b) x := by
 cases x <;> simp [pre]
theorem bu (x : Toks) : pre [] x = x := by cases x <;> simp [pre]
theorem gT (p : Int -> Bool) (r : List UInt8) : r.take (yb p r).length = yb p r := by
 unfold yb
 induction r with
 | nil => rfl
 | cons a r ih =>
  rw [List.takeWhile_cons]
  split
  ·simp [ih]
  ·simp
theorem fT {p : Int -> Bool} {c : UInt8} {r : List UInt8} (h : p c.toNat = true) : 1 <= (yb p (c :: r)).length := by
 unfold yb
 rw [List.takeWhile_cons,if_pos h]; simp
theorem oy (r : List UInt8) : r.take (ys r).length = ys r := by
 unfold ys
 split
 ·match r with
  | [] => rfl
  | [a] => rfl
  | a :: b :: r => rfl
 ·split
  ·match r with
   | [] => rfl
   | a :: r => rfl
  ·rfl
theorem vW {c : UInt8} {r w : List UInt8} (h : xp (c :: r) = .ok w) : (c :: r).take w.length = w /\ 1 <= w.length := by
 unfold xp at h
 have i : (c :: r).headD 0 = c := rfl
 rw [i] at h
 by_cases d : zG c.toNat = true
 ·rw [if_pos d] at h
  by_cases b : 12 < (yb lod (c :: r)).length
  ·rw [if_pos b] at h; cases h
  ·rw [if_neg b] at h
   cases h
   exact ⟨gT _ _,fT (by simp [lod,d])⟩
 ·rw [if_neg d] at h
  by_cases e : zx c.toNat = true
  ·rw [if_pos e] at h
   cases g : zU 0 (yb zx (c :: r)) with
   | none => rw [g] at h; cases h
   | some v =>
    rw [g] at h; cases h
    exact ⟨gT _ _,fT e⟩
  ·rw [if_neg e] at h
   by_cases f : ys (c :: r) = []
   ·rw [if_pos f] at h; cases h
   ·rw [if_neg f] at h
    cases h; refine ⟨oy _,?_⟩; cases j : ys (c :: r) with
    | nil => exact absurd j f
    | cons a l => simp
theorem kp {c : UInt8} {r w : List UInt8} (h : xp (c :: r) = .ok w) : w.length <= (c :: r).length := by
 have b := (vW h).1; have := congrArg List.length b; rw [List.length_take] at this
 omega
def jk (n : Nat) (l : List (List UInt8 × List UInt8)) : List Value := l.flatMap fun x => [.string ⟨x.1.toArray⟩,.int .i64 ((n - x.2.length : Nat) : Int)]
theorem fI (n : Nat) (l : List (List UInt8 × List UInt8)) (x : List UInt8 × List UInt8) : jk n (l ++ [x]) = jk n l ++ [.string ⟨x.1.toArray⟩,.int .i64 ((n - x.2.length : Nat) : Int)] := by
 simp [jk]
theorem za2 {y : ByteArray} {l : List UInt8} (h : y.data.toList = l) : y = ⟨l.toArray⟩ := by
 subst h; cases y; simp
theorem Tryz.infoTok : (Tryz.prog.info? 167).map (fun i => (i.zero,i.size,i.bytes)) = some (some (.agg #[.string ⟨#[]⟩,.int .i64 0]),2,24) := by kernel_rfl
theorem xi {a w w' : World} {b : Nat} {row : Option Nat} (h : a.grownBy w (some b)) (hg : w.grownBy w' row) (hr : ∀ j,row = some j -> a.heap.size <= j) : a.grownBy w' (some b) :=
 ⟨hg.os.trans h.os,hg.tape.trans h.tape,hg.output.trans h.output,Nat.le_trans h.size hg.size,fun i hi hne => (hg.block i (Nat.lt_of_lt_of_le hi h.size) (fun e => by have := hr i e.symm; omega)).trans (h.block i hi hne)⟩
theorem kb {w : World} {base : Nat} {e : TypeId} {size : Nat} {v : Value} {n : Nat} {xs : List Value} (h : w.ownsRow base e size v n xs) (m : Nat) : (w.drewN m).ownsRow base e size v n xs := h
theorem lE {w : World} {base : Nat} {e : TypeId} {v : Value} {acc : List (List UInt8 × List UInt8)} {x r : List UInt8} {n k : Nat} {y : ByteArray}
  (h : w.ownsRow base e 2 v (acc.length + 1) (jk n acc ++ [.string y,.int .i64 (k : Int)])) (hy : y.data.toList = x) (hk : n - r.length = k) :
  w.ownsRow base e 2 v (acc ++ [(x,r)]).length (jk n (acc ++ [(x,r)])) := by
 rw [fI,List.length_append]; simp only; rw [hk,<- za2 hy]
 exact h
structure TI (w : World) (b : Nat) (s : ByteArray) (v : Value) (wr : World) (r : List UInt8) (acc : List (List UInt8 × List UInt8)) (n : Nat) : Prop where
 len : r.length <= s.size
 drop : s.data.toList.drop (s.size - r.length) = r
 sc : Sc wr b s (s.size - r.length)
 own : wr.ownsRow w.heap.size 167 2 v acc.length (jk s.size acc)
 gb : w.grownBy wr (some b)
 same : pre acc (dA n r) = xS s.data.toList
 fuel : r.length <= n
 count : acc.length + r.length <= s.size
theorem rO {s : ByteArray} {k : Nat} {r : List UInt8} (h : skp (s.data.toList.drop k) = .ok r) (hk : k <= s.size) : r.length <= s.size - k /\ s.data.toList.drop (s.size - r.length) = r := by
 obtain ⟨_,b⟩ := ja h; refine ⟨?_,?_⟩
 ·have := bU h
  rw [List.length_drop,<- zD] at this; exact this
 ·have := jI b (by rw [<- zD]; exact hk)
  rw [<- zD] at this; exact this
theorem oK (b : Nat) (s : ByteArray) (w : World) (hs : s.size <= 1000000000) (hsc : Sc w b s 0) :
  Calls Tryz.prog 65 #[pq b] w fun e w' =>
   (∀ l,xS s.data.toList = .ok l -> ∃ v,e = .returned v /\ w'.ownsRow w.heap.size 167 2 v l.length (jk s.size l) /\ w.grownBy w' (some b)) /\
   (∀ n f,xS s.data.toList = .error (n,f) -> Threw w ((s.size - f.length : Nat) : Int) n e w' /\ w.grownBy w' (some b)) := by
 obtain ⟨i0,hi,a0,a1,a2⟩ := info_parts Tryz.infoTok; have d6 := hsc.lt; have a3 := zc hsc; clear hsc; have H : xS s.data.toList = match skp s.data.toList with | .error f => .error (2,f) | .ok r' => dA s.data.toList.length r' := vX _ _; cases I : skp s.data.toList with
 | error f0 =>
  rw [I] at H; have HT := zc H; have HK := zc I; clear H I
  go_enter Tryz.func65,Tryz.ntmps65
  go_wp2_with fail; refine (kT b s 0 _ hs (Nat.zero_le _) a3.out).mono ?_; rintro e w1 ⟨_,J⟩; obtain ⟨⟨q,rfl,hq,q0,q1,q2⟩,hG⟩ := J f0 (by rw [List.drop_zero]; exact HK.out); refine ⟨rfl,fun l hl => ?_,fun n f hf => ?_⟩
  ·rw [HT.out] at hl; cases hl
  ·rw [HT.out] at hf
   cases hf
   exact ⟨⟨q,rfl,hq,q0,q1,q2⟩,hG⟩
 | ok r0 =>
  rw [I] at H; have HT := zc H; have HK := zc I; clear H I
  go_enter Tryz.func65,Tryz.ntmps65
  go_wp2_with fail; refine (kT b s 0 _ hs (Nat.zero_le _) a3.out).mono ?_; rintro e w1 ⟨K,J⟩; clear J; obtain ⟨rfl,i,o⟩ := K r0 (by rw [List.drop_zero]; exact HK.out); obtain ⟨b4,N⟩ := rO (s := s) (k := 0) (r := r0) (by rw [List.drop_zero]; exact HK.out) (Nat.zero_le _); have b5 : TI w b s (.slice none 0 0) w1 r0 [] s.data.toList.length := ⟨by omega,N,i,World.ownsRow_nil _ _ _ _,o,by rw [bu]; exact HT.out.symm,by rw [<- zD]; omega,by simp; omega⟩; clear i o b4 N a3 K; go_wp2_with fail
  go_loopw [3] (fun v wr => ∃ r O n,Hid (TI w b s v wr r O n)) (fun _ wr => s.size - atOf wr b)
  case atStart => exact ⟨r0,[],_,b5⟩
  case round =>
   obtain ⟨r,O,n,HI⟩ := hrel; clear b5; cases r with
   | nil =>
    have A := HI.out; have c0 := A.sc.c0; have c1 := A.sc.c1; simp only [List.length_nil,Nat.sub_zero] at c1; have B := A.own; have E := A.gb; have Q := A.count; simp only [List.length_nil,Nat.add_zero] at Q
    have X : Hid (xS s.data.toList = .ok (O ++ [([],[])])) := by rw [<- A.same]; rfl
    have c6 := E.size; clear A HI HT HK; have L := zc E; clear E; go_wp2_with fail
    go_quiet (fail)
    go_wp2_with (first | (at_builtin; refine wpList_append_own _ rfl _ _ 118 rfl w.heap.size 167 i0 (.agg #[.string ⟨#[]⟩,.int .i64 0]) 2 24 Tryz.underlying118 hi a0 a1 a2 rfl (by decide) _ _ _ rfl ((kb B nq).alloc _) ⟨wr.heap.size,0,none⟩ 1 1 [.string ⟨#[]⟩,.int .i64 (s.size : Int)] rfl rfl (cell_two_new _ _ _ _) (fun x C => by simp at C; rcases C with rfl | rfl <;> rfl) (by unfold maxLen; omega) (by omega) (by simp; omega) ?_; intro v' w3 d u G))
    go_ret
    refine ⟨fun l hl => ?_,fun m f hf => ?_⟩
    ·rw [X.out] at hl
     cases hl; refine ⟨v',rfl,?_,xi (zh (zq L.out nq) _) u (fun j hj => (B.lt j hj).1)⟩; rw [fI,List.length_append]
     exact d
    ·rw [X.out] at hf; cases hf
   | cons c r =>
    have A := HI.out; have b6 := A.len; have z := A.drop; have D := A.sc; have B := A.own; have E := A.gb; have Q := A.count; have c7 := A.fuel; have R := A.same; simp only [List.length_cons] at b6 z D Q c7; obtain ⟨k,hk⟩ : ∃ k,k = s.size - (r.length + 1) := ⟨_,rfl⟩; rw [<- hk] at z D
    have a4 : k < s.size := by omega
    have d7 : k + (r.length + 1) <= s.size := by omega
    have d8 : s.size <= k + (r.length + 1) := by omega
    obtain ⟨m,rfl⟩ : ∃ m,n = m + 1 := ⟨n - 1,by omega⟩; have c0 := D.c0; have c1 := D.c1; have f1 := D.f1; have c8 := D.atOf; have c6 := E.size; have HD := zc z; have U := zc D; have L := zc E; have a5 := zc R; have b7 := zc B; clear A HI HT HK z D E R B hk; cases C : xp (c :: r) with
    | error m1 =>
     have X : Hid (xS s.data.toList = .error (m1,c :: r)) := by
      rw [<- a5.out,dA,C]; rfl
     have HX := zc C; clear C; go_wp2_with fail
     go_quiet (fail)
     go_wp2_with fail; refine (gO b s k _ hs a4 (U.out.drewN nq)).mono ?_; rintro e w1 ⟨K,J⟩; obtain ⟨⟨q,rfl,hq,q0,q1,q2⟩,hG⟩ := J m1 (by rw [HD.out]; exact HX.out); refine ⟨rfl,fun l hl => ?_,fun n f hf => ?_⟩
     ·rw [X.out] at hl; cases hl
     ·rw [X.out] at hf
      cases hf; have M := za (zq L.out nq) (zv hG _); refine ⟨⟨q,rfl,Nat.le_trans (zq L.out nq).size hq,q0,?_,q2⟩,M⟩; rw [List.length_cons,show s.size - (r.length + 1) = k from by omega]
      exact q1
    | ok x =>
     obtain ⟨b8,_⟩ := vW C; have c9 := kp C; simp only [List.length_cons] at c9
     have b9 : s.data.toList.drop (k + x.length) = (c :: r).drop x.length := by rw [<- List.drop_drop,HD.out]
     have a6 := zc b9; have HX := zc C
     have Y : dA (m + 1) (c :: r) = pre [(x,c :: r)] (vC (m + 1) ((c :: r).drop x.length)) := by rw [dA,C]
     clear b8 b9 C; cases hz : skp ((c :: r).drop x.length) with
     | error f2 =>
      have X : Hid (xS s.data.toList = .error (2,f2)) := by
       rw [<- a5.out,Y,vX,hz]; rfl
      have HZ := zc hz; clear hz Y; go_wp2_with fail
      go_quiet (fail)
      go_wp2_with fail; refine (gO b s k _ hs a4 (U.out.drewN nq)).mono ?_; rintro e w1 ⟨K,J⟩; clear J; obtain ⟨y,rfl,hy,o⟩ := K x (by rw [HD.out]; exact HX.out)
      have V : y.size = x.length := by rw [zD,hy]
      have i := (U.out.drewN nq).kept o (by simp); have g := (kb b7.out nq).kept o (by cases h : Value.ownBlock _ <;> simp); have F := za (zq L.out nq) (zv o (some b)); have c2 := F.size; have d0 := i.c0; have d1 := i.c1; have e1 := i.f1; have HY := zc hy; have a7 := zc V; have a8 := zc i; have a9 := zc F
      have d2 : y.size <= s.size := by omega
      clear K hy V i F o c0 c1 f1
      go_wp2_with (first | (at_builtin; refine wpList_append_own _ rfl _ _ 118 rfl w.heap.size 167 i0 (.agg #[.string ⟨#[]⟩,.int .i64 0]) 2 24 Tryz.underlying118 hi a0 a1 a2 rfl (by decide) _ _ _ rfl (g.alloc _) ⟨w1.heap.size,0,none⟩ 1 1 [.string y,.int .i64 (k : Int)] rfl rfl (cell_two_new _ _ _ _) (fun x C => by simp at C; rcases C with rfl | rfl <;> rfl) (by unfold maxLen; omega) (by omega) (by simp; omega) ?_; intro v' w3 d u G; have t := (a8.out.kept (World.grownBy_alloc _ _ none) (by simp)).kept u (fun e => by have := (g.lt b e).1; omega); have k0 := t.c0; have k1 := t.c1; have k2 := t.f1; have Z := zc (xi (zh a9.out _) u (fun j hj => (g.lt j hj).1)); have b0 := zc t; have b1 := zc d; clear t d u G))
      refine (kT b s (k + x.length) _ hs (by omega) (b0.out.setI ((k : Int) + (y.size : Int)) (k + x.length) (by have := a7.out; omega))).mono ?_; rintro e w5 ⟨K,J⟩; obtain ⟨⟨q,rfl,hq,q0,q1,q2⟩,hG⟩ := J f2 (by rw [a6.out]; exact HZ.out); have M := za (zT Z.out 1 (.int .i64 ((k : Int) + (y.size : Int)))) hG; refine ⟨rfl,fun l hl => ?_,fun n f hf => ?_⟩
      ·rw [X.out] at hl; cases hl
      ·rw [X.out] at hf
       cases hf
       exact ⟨⟨q,rfl,Nat.le_trans (zT Z.out 1 (.int .i64 ((k : Int) + (y.size : Int)))).size hq,q0,q1,q2⟩,M⟩
     | ok r2 =>
      obtain ⟨b4,N⟩ := rO (s := s) (k := k + x.length) (r := r2) (by rw [a6.out]; exact hz) (by omega)
      have X : Hid (pre (O ++ [(x,c :: r)]) (dA m r2) = xS s.data.toList) := by
       rw [<- a5.out,Y,vX,hz,bH]; rfl
      have HZ := zc hz; have d3 := zc N; clear hz Y N; go_wp2_with fail
      go_quiet (fail)
      go_wp2_with fail; refine (gO b s k _ hs a4 (U.out.drewN nq)).mono ?_; rintro e w1 ⟨K,J⟩; clear J; obtain ⟨y,rfl,hy,o⟩ := K x (by rw [HD.out]; exact HX.out)
      have V : y.size = x.length := by rw [zD,hy]
      have i := (U.out.drewN nq).kept o (by simp); have g := (kb b7.out nq).kept o (by cases h : Value.ownBlock _ <;> simp); have F := za (zq L.out nq) (zv o (some b)); have c2 := F.size; have d0 := i.c0; have d1 := i.c1; have e1 := i.f1; have HY := zc hy; have a7 := zc V; have a8 := zc i; have a9 := zc F
      have d2 : y.size <= s.size := by omega
      clear K hy V i F o c0 c1 f1
      go_wp2_with (first | (at_builtin; refine wpList_append_own _ rfl _ _ 118 rfl w.heap.size 167 i0 (.agg #[.string ⟨#[]⟩,.int .i64 0]) 2 24 Tryz.underlying118 hi a0 a1 a2 rfl (by decide) _ _ _ rfl (g.alloc _) ⟨w1.heap.size,0,none⟩ 1 1 [.string y,.int .i64 (k : Int)] rfl rfl (cell_two_new _ _ _ _) (fun x C => by simp at C; rcases C with rfl | rfl <;> rfl) (by unfold maxLen; omega) (by omega) (by simp; omega) ?_; intro v' w3 d u G; have t := (a8.out.kept (World.grownBy_alloc _ _ none) (by simp)).kept u (fun e => by have := (g.lt b e).1; omega); have k0 := t.c0; have k1 := t.c1; have k2 := t.f1; have Z := zc (xi (zh a9.out _) u (fun j hj => (g.lt j hj).1)); have b0 := zc t; have b1 := zc d; clear t d u G))
      refine (kT b s (k + x.length) _ hs (by omega) (b0.out.setI ((k : Int) + (y.size : Int)) (k + x.length) (by have := a7.out; omega))).mono ?_; rintro e w5 ⟨K,J⟩; clear J; obtain ⟨rfl,c3,b2⟩ := K r2 (by rw [a6.out]; exact HZ.out); have M := za (zT Z.out 1 (.int .i64 ((k : Int) + (y.size : Int)))) b2; have b3 : v'.ownBlock = none \/ v'.ownBlock ≠ some b := .inr (fun e => by have := (b1.out.lt b e).1; omega); have c4 := (b1.out.kept (zT (zj w3 (some b)) 1 (.int .i64 ((k : Int) + (y.size : Int)))) b3).kept b2 b3; have d4 := zc M; have d5 := zc c4; have c5 := zc c3; clear K M c4 c3 b2 b3 k0 k1 k2 d0 d1 e1; go_wp2; refine ⟨⟨r2,O ++ [(x,c :: r)],m,⟨by omega,d3.out,c5.out,?_,d4.out,X.out,by omega,by simp; omega⟩⟩,by rw [c5.out.atOf,c8]; omega⟩
      exact lE d5.out HY.out (by rw [List.length_cons]; omega)
set_option maxHeartbeats 1000000
theorem jC (v : Value) (x : TypeId) (w : World) : (Instr.typeAssert (.iface 103 v) x 103 true).run Tryz.prog w = .ok (.tuple #[v,.bool true]) w := by kernel_rfl
theorem qi (x : TypeId) (w : World) : (Instr.typeAssert .nilIface x 103 true).run Tryz.prog w = .ok (.tuple #[.pointer none,.bool false]) w := by kernel_rfl
theorem qZ (p0 p1 q : Addr) (v0 v1 : Value) (older : List PanicEntry) (w : World) (hne : p0 ≠ p1) (h0 : w.cell? p0 = some v0) (h1 : w.cell? p1 = some v1) (z0 : w.frozen? p0 = false) (z1 : w.frozen? p1 = false) :
  CallsD Tryz.prog 64 #[.pointer (some p0),.pointer (some p1)] (.panicking ({ v := .iface 103 (.pointer (some q)),recovered := false } :: older)) w fun e u' w' =>
   e = .returned (.tuple #[]) /\ u' = .panicking ({ v := .iface 103 (.pointer (some q)),recovered := true } :: older) /\ w' = (w.setCell p0 (.slice none 0 0)).setCell p1 (.iface 103 (.pointer (some q))) := by
 refine callsD_of_wpS Tryz.func64 rfl fun c₀ cs hu => ?_
 have b := jC (.pointer (some q))
 have c : (w.setCell p0 (.slice none 0 0)).cell? p1 = some v1 := by rw [World.cell?_setCell_other _ _ _ _ hne]; exact h1
 apply wpS_seq
 apply wpS_region
 simp [wpOpsS,go_sem,recoverD,hu,Tryz.ntmps64,Exit.thenS,b]
 apply wpS_seq
 apply wpS_region
 simp [wpOpsS,go_sem,Array.replicate,Exit.thenS]
 refine wpS_cond (t := true) (by simp [Act.eval]) ?_; simp only [if_true]
 apply wpS_region
 simp [wpOpsS,go_sem,h0,z0,c,z1,bodyPostS,results,Tryz.results64]
theorem np (p0 p1 : Addr) (w : World) :
  CallsD Tryz.prog 64 #[.pointer (some p0),.pointer (some p1)] .returning w fun e u' w' => e = .returned (.tuple #[]) /\ u' = .returning /\ w' = w := by
 refine callsD_of_wpS Tryz.func64 rfl fun c₀ cs hu => ?_
 have b := qi
 apply wpS_seq
 apply wpS_region
 simp [wpOpsS,go_sem,recoverD,hu,Tryz.ntmps64,Exit.thenS,b]
 apply wpS_seq
 apply wpS_region
 simp [wpOpsS,go_sem,Array.replicate,Exit.thenS]
 refine wpS_cond (t := false) (by simp [Act.eval]) ?_; simp only [Bool.false_eq_true,if_false]; refine wpS_of_wp (wp_skip ?_); cases c₀
 simp_all [bodyPostS,results,Tryz.results64]
def TokensPost (t : List UInt8) (w : World) (e : Ending) (w' : World) : Prop :=
 (4000 < t.length -> e = .returned (.tuple #[.slice none 0 0,.iface 56 (.int .i64 3)])) /\
 (t.length <= 4000 -> ∀ l,xS t = .ok l -> ∃ v,e = .returned (.tuple #[v,.nilIface]) /\ w'.ownsRow w.heap.size 167 2 v l.length (jk t.length l)) /\
 (t.length <= 4000 -> ∀ n f,xS t = .error (n,f) -> ∃ q,e = .returned (.tuple #[.slice none 0 0,.iface 103 (pq q)]) /\
  w'.cell? ⟨q,0,none⟩ = some (.int .i64 0) /\ w'.cell? ⟨q,1,none⟩ = some (.int .i64 ((t.length - f.length : Nat) : Int)) /\ w'.cell? ⟨q,2,none⟩ = some (.iface 56 (.int .i64 n))) /\
 Below w.heap.size w w'
theorem pZ (s : ByteArray) (w : World) (hs : s.size <= maxLen) (hl : 4000 < s.size) :
  Calls Tryz.prog 49 #[.string s] w fun e w' => TokensPost s.data.toList w e w' := by
 unfold maxLen at hs
 go_enter_defers Tryz.func49,Tryz.ntmps49
 go_wp2; simp only [bodyPostD,Leaves]; refine ⟨.tuple #[.slice none 0 0,.iface 56 (.int .i64 3)],by simp [results,Tryz.results49,go_sem],fun _ => rfl,fun h => ?_,fun h => ?_,((Below.refl _ _).alloc (Nat.le_refl _) _).alloc (by simp) _⟩
 ·rw [<- zD] at h; omega
 ·rw [<- zD] at h; omega
theorem iB {w : World} {base base' : Nat} {e : TypeId} {size : Nat} {v : Value} {n : Nat} {xs : List Value} (h : w.ownsRow base e size v n xs) (hb : base' <= base) : w.ownsRow base' e size v n xs := by
 obtain ⟨j,d⟩ := h; refine ⟨j,?_⟩
 rcases d with d | ⟨g,f,i,a,b,c⟩
 ·exact .inl d
 ·exact .inr ⟨g,f,i,a,Nat.le_trans hb b,c⟩
theorem zE {w w' : World} {row : Option Nat} (hg : w.grownBy w' row) {a : Addr} {v : Value} (h : w.cell? a = some v) (hne : some a.block ≠ row) : w'.cell? a = some v := by
 have b : a.block < w.heap.size := by
  rcases Nat.lt_or_ge a.block w.heap.size with c | c
  ·exact c
  ·simp [World.cell?,Array.getElem?_eq_none c] at h
 rw [World.cell?_of_block (w := w) (hg.block _ b hne)]; exact h
theorem ye {w w' : World} {row : Option Nat} (hg : w.grownBy w' row) {a : Addr} {x : Bool} (hlt : a.block < w.heap.size) (h : w.frozen? a = x) (hne : some a.block ≠ row) : w'.frozen? a = x := by
 rw [World.frozen?_of_block (w := w) (hg.block _ hlt hne)]; exact h
theorem tT (s : ByteArray) (w : World) (hl : s.size <= 4000) :
  Calls Tryz.prog 49 #[.string s] w fun e w' => TokensPost s.data.toList w e w' := by
 have a3 : ∀ (fn : Fn) (first C : Array Value) (w : World),(Instr.makeFunc fn first C).run Tryz.prog w = .ok (.func fn first C) w := fun _ _ _ _ => rfl
 obtain ⟨W,m⟩ : ∃ W,W = ((w.alloc (.cells #[.slice none 0 0] 118)).alloc (.cells #[.nilIface] 27)).alloc (.cells #[.string s,.int .i64 0] 138) := ⟨_,rfl⟩
 have M : W.heap.size = w.heap.size + 3 := by rw [m]; simp
 have N : Sc W (w.heap.size + 1 + 1) s 0 := by
  rw [m]
  exact ⟨by rw [World.cell?_alloc_at _ _ _ _ (by simp)]; rfl,by rw [World.cell?_alloc_at _ _ _ _ (by simp)]; rfl,World.frozen?_alloc_at _ _ _ _ (by simp)⟩
 have a0 : W.cell? ⟨w.heap.size,0,none⟩ = some (.slice none 0 0) := by
  rw [m,World.cell?_alloc_lt _ _ _ (by simp; omega),World.cell?_alloc_lt _ _ _ (by simp)]; simp
 have a1 : W.cell? ⟨w.heap.size + 1,0,none⟩ = some .nilIface := by
  rw [m,World.cell?_alloc_lt _ _ _ (by simp)]; simp
 have b0 : W.frozen? ⟨w.heap.size,0,none⟩ = false := by
  rw [m,World.frozen?_alloc_old _ _ _ (by simp; omega),World.frozen?_alloc_old _ _ _ (by simp)]; simp
 have b1 : W.frozen? ⟨w.heap.size + 1,0,none⟩ = false := by
  rw [m,World.frozen?_alloc_old _ _ _ (by simp)]; simp
 have O : Below w.heap.size w W := by
  rw [m]; exact (((Below.refl _ _).alloc (Nat.le_refl _) _).alloc (by simp) _).alloc (by simp; omega) _
 have HW := zc m; have Q := zc N; have D := zc a0; have E := zc a1; have F := zc b0; have G := zc b1; have H := zc O; have I := zc M; clear m N a0 a1 b0 b1 O M
 go_enter_defers Tryz.func49,Tryz.ntmps49
 go_wp2_with fail; rw [<- HW.out]; refine (oK _ s W (by omega) Q.out).mono ?_; rintro e r ⟨X,hB⟩; cases L : xS s.data.toList with
 | ok l =>
  clear hB; obtain ⟨v,hv,b,d⟩ := X l L
  obtain ⟨u,z,A,rfl⟩ : ∃ a n c,v = .slice a n c := by
   rcases b.2 with ⟨h,_⟩ | ⟨g,C,a4,h,_⟩
   ·exact ⟨_,_,_,h⟩
   ·exact ⟨_,_,_,h⟩
  subst hv; have R := I.out; have U := zE d D.out (by simp; omega); have V := zE d E.out (by simp); have z0 := ye d (by simp; omega) F.out (by simp; omega); have z1 := ye d (by simp; omega) G.out (by simp); have t : Below w.heap.size w r := H.out.grown d (by omega) (fun k hk => by cases hk; omega)
  have J : ∀ j,j < w.heap.size + 3 -> (Value.slice u z A).ownBlock = none \/ (Value.slice u z A).ownBlock ≠ some j := fun j hj => .inr (fun e => by have := (b.lt j e).1; omega)
  have ho := ((b.kept (zT (zj r (some w.heap.size)) 0 (.slice u z A)) (J _ (by omega))).kept (zT (zj _ (some (w.heap.size + 1))) 0 .nilIface) (J _ (by omega))); have HO := zc (iB ho (show w.heap.size <= W.heap.size from by omega)); have HT := zc L; have Y := zc t; clear X b d L t J ho R HW Q D E F G H I; go_wp2; refine leaves_cons (f := 64) (args := #[pq w.heap.size,pq (w.heap.size + 1)]) (by simp) (by simp [go_sem]) ?_; refine (np _ _ _).mono ?_; rintro e u' B ⟨rfl,rfl,rfl⟩; simp only [Leaves,settle]; refine ⟨.tuple #[.slice u z A,.nilIface],?_,?_⟩
  ·have Z : ((r.setCell ⟨w.heap.size,0,none⟩ (.slice u z A)).setCell ⟨w.heap.size + 1,0,none⟩ .nilIface).cell? ⟨w.heap.size,0,none⟩ = some (.slice u z A) := by
    rw [World.cell?_setCell_other _ _ _ _ (by simp)]; exact World.cell?_setCell_same _ _ _ U
   have g1 : ((r.setCell ⟨w.heap.size,0,none⟩ (.slice u z A)).setCell ⟨w.heap.size + 1,0,none⟩ .nilIface).cell? ⟨w.heap.size + 1,0,none⟩ = some .nilIface :=
    World.cell?_setCell_same _ _ _ (show (r.setCell ⟨w.heap.size,0,none⟩ (.slice u z A)).cell? ⟨w.heap.size + 1,0,none⟩ = some .nilIface by rw [World.cell?_setCell_other _ _ _ _ (by simp)]; exact V)
   simp [results,Tryz.results49,go_sem,Z,g1]
  ·refine ⟨fun h => ?_,fun _ l' hl' => ?_,fun _ n f hf => ?_,(Y.out.setCell (by simp) _).setCell (by simp) _⟩
   ·rw [<- zD] at h; omega
   ·rw [HT.out] at hl'
    cases hl'
    exact ⟨_,rfl,by rw [<- zD]; exact HO.out⟩
   ·rw [HT.out] at hf; cases hf
 | error x =>
  clear X; obtain ⟨n,f⟩ := x; obtain ⟨⟨q,rfl,_,q0,q1,q2⟩,d⟩ := hB n f L; have R := I.out; have U := zE d D.out (by simp; omega); have V := zE d E.out (by simp); have z0 := ye d (by simp; omega) F.out (by simp; omega); have z1 := ye d (by simp; omega) G.out (by simp); have t : Below w.heap.size w r := H.out.grown d (by omega) (fun k hk => by cases hk; omega)
  show Leaves _ _ _ _ _ _ _
  refine leaves_cons (f := 64) (args := #[pq w.heap.size,pq (w.heap.size + 1)]) (by simp) (by simp [go_sem]) ?_; refine (qZ ⟨w.heap.size,0,none⟩ ⟨w.heap.size + 1,0,none⟩ ⟨q,0,none⟩ _ _ [] _ (by simp) U V z0 z1).mono ?_; rintro e u' B ⟨rfl,rfl,rfl⟩
  show ∃ v,_ /\ _
  obtain ⟨B,i⟩ : ∃ B,B = (r.setCell ⟨w.heap.size,0,none⟩ (.slice none 0 0)).setCell ⟨w.heap.size + 1,0,none⟩ (.iface 103 (pq q)) := ⟨_,rfl⟩
  have Z : B.cell? ⟨w.heap.size,0,none⟩ = some (.slice none 0 0) := by
   rw [i,World.cell?_setCell_other _ _ _ _ (by simp)]; exact World.cell?_setCell_same _ _ _ U
  have g1 : B.cell? ⟨w.heap.size + 1,0,none⟩ = some (.iface 103 (pq q)) := by
   rw [i]
   exact World.cell?_setCell_same _ _ _ (show (r.setCell ⟨w.heap.size,0,none⟩ (.slice none 0 0)).cell? ⟨w.heap.size + 1,0,none⟩ = some .nilIface by rw [World.cell?_setCell_other _ _ _ _ (by simp)]; exact V)
  have K : ∀ (o : Nat) (x : Value),r.cell? ⟨q,o,none⟩ = some x -> B.cell? ⟨q,o,none⟩ = some x := fun o x hx => by
   rw [i,World.cell?_setCell_other _ _ _ _ (by intro e; have := congrArg Addr.block e; simp only at this; omega),World.cell?_setCell_other _ _ _ _ (by intro e; have := congrArg Addr.block e; simp only at this; omega)]; exact hx
  have a2 : Below w.heap.size w B := by rw [i]; exact (t.setCell (by simp) _).setCell (by simp) _
  rw [<- i]; refine ⟨.tuple #[.slice none 0 0,.iface 103 (pq q)],?_,fun h => ?_,fun _ l' hl' => ?_,fun _ n' f' hf => ?_,a2⟩
  ·simp [results,Tryz.results49,go_sem,Z,g1]
  ·rw [<- zD] at h; omega
  ·rw [L] at hl'; cases hl'
  ·rw [L] at hf
   cases hf
   exact ⟨q,rfl,K _ _ q0,by rw [<- zD]; exact K _ _ q1,K _ _ q2⟩
theorem oI (s : ByteArray) (w : World) (hs : s.size <= maxLen) :
  Calls Tryz.prog 49 #[.string s] w fun e w' => TokensPost s.data.toList w e w' := by
 by_cases b : 4000 < s.size
 ·exact pZ s w hs b
 ·exact tT s w (by omega)
end Go.Proofs.YtnmkffjklpfflaaGreatDoor
