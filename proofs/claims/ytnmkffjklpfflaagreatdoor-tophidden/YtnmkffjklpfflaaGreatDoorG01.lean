/- The words of a text,as plain functions on lists of bytes: what is skipped,which word comes next,all words; and small facts on them. -/
import Derived.Test.YtnmkffjklpfflaaGreatDoorRows
import Derived.WalkKit
import Derived.WalkSpells
import Derived.WalkLawsBesides
import Derived.BigQuiet
import Derived.Deep.QuietTactic
import Derived.Lib.Strings
import Derived.Lib.IndexBytes
import Derived.Lib.Bytealg
import Derived.Laws.RangeString
import Derived.Laws.RangeAny
import Derived.Defers
import Derived.Recover
namespace Go.Proofs.YtnmkffjklpfflaaGreatDoor
open Go.RowKit
def zE (n : Int) : Bool := decide ((97 <= n /\ n <= 122) \/ (65 <= n /\ n <= 90))
def zA (n : Int) : Bool := decide (48 <= n /\ n <= 57)
def vk (n : Int) : Bool := decide (n = 32 \/ n = 9 \/ n = 13 \/ n = 10)
def lod (n : Int) : Bool := zE n || zA n
def zM (r : List UInt8) (a b : UInt8) : Bool := r.take 2 == [a,b]
def cmt : Nat -> List UInt8 -> Option (List UInt8)
 | _,[] => none
 | _,[_] => none
 | d,a :: b :: r => if a = 40 /\ b = 42 then cmt (d + 1) r else if a = 42 /\ b = 41 then (if d <= 1 then some r else cmt (d - 1) r) else cmt d (b :: r)
def xc : Nat -> List UInt8 -> Except (List UInt8) (List UInt8)
 | 0,r => .ok r
 | _ + 1,[] => .ok []
 | n + 1,c :: r => if vk c.toNat then xc n r else if zM (c :: r) 40 42 then (match cmt 0 (c :: r) with | none => .error (c :: r) | some r' => xc n r') else .ok (c :: r)
def skp (r : List UInt8) : Except (List UInt8) (List UInt8) := xc r.length r
def zY (p : Int -> Bool) (r : List UInt8) : List UInt8 := r.takeWhile (fun c => p c.toNat)
def zX : Int -> List UInt8 -> Option Int
 | v,[] => some v
 | v,c :: r => if (2147483647 - ((c.toNat : Int) - 48)) / 10 < v then none else zX (v * 10 + ((c.toNat : Int) - 48)) r
def jw : List UInt8 := [61,35,60,62,43,45,42,38,126,40,41,91,93,123,125,44,59,58,46,94]
def ye (r : List UInt8) : List UInt8 :=
 if zM r 58 61 || zM r 60 61 || zM r 62 61 then r.take 2
 else if r.take 1 ≠ [] /\ jw.contains (r.headD 0) then r.take 1 else []
def xm (r : List UInt8) : Except Nat (List UInt8) :=
 if zE (r.headD 0).toNat then (if 12 < (zY lod r).length then .error 3 else .ok (zY lod r))
 else if zA (r.headD 0).toNat then (match zX 0 (zY zA r) with | none => .error 3 | some _ => .ok (zY zA r))
 else if ye r = [] then .error 1 else .ok (ye r)
def uY : Nat -> List UInt8 -> Except (Nat × List UInt8) (List (List UInt8 × List UInt8))
 | 0,_ => .ok []
 | n + 1,r => match skp r with
  | .error f => .error (2,f)
  | .ok [] => .ok [([],[])]
  | .ok (c :: r') => match xm (c :: r') with
   | .error e => .error (e,c :: r')
   | .ok w => match uY n ((c :: r').drop w.length) with
    | .error x => .error x
    | .ok l => .ok ((w,c :: r') :: l)
def vD (r : List UInt8) : Except (Nat × List UInt8) (List (List UInt8 × List UInt8)) := uY (r.length + 1) r
theorem nU (d : Nat) : cmt d [] = none := by simp [cmt]
theorem qK (d : Nat) (a b : UInt8) (r : List UInt8) : cmt d (a :: b :: r) = if a = 40 /\ b = 42 then cmt (d + 1) r else if a = 42 /\ b = 41 then (if d <= 1 then some r else cmt (d - 1) r) else cmt d (b :: r) := by
 rw [cmt]
theorem uF : ∀ (n d : Nat) (r r' : List UInt8),r.length <= n -> cmt d r = some r' -> ∃ p : List UInt8,r = p ++ r' /\ 2 <= p.length
 | 0,d,r,r',hn,h => by
  cases r with
  | nil => simp [cmt] at h
  | cons a r => simp at hn
 | n + 1,d,[],r',hn,h => by simp [cmt] at h
 | n + 1,d,[a],r',hn,h => by simp [cmt] at h
 | n + 1,d,a :: b :: r,r',hn,h => by
  rw [qK] at h; simp only [List.length_cons] at hn
  split at h
  ·obtain ⟨p,hp,_⟩ := uF n _ r r' (by omega) h
   exact ⟨a :: b :: p,by simp [hp],by simp⟩
  ·split at h
   ·split at h
    ·simp only [Option.some.injEq] at h
     exact ⟨[a,b],by simp [h],by simp⟩
    ·obtain ⟨p,hp,_⟩ := uF n _ r r' (by omega) h
     exact ⟨a :: b :: p,by simp [hp],by simp⟩
   ·obtain ⟨p,hp,_⟩ := uF n _ (b :: r) r' (by simp; omega) h
    exact ⟨a :: p,by simp [hp],by simp; omega⟩
theorem vL {d : Nat} {r r' : List UInt8} (h : cmt d r = some r') : ∃ p : List UInt8,r = p ++ r' /\ 2 <= p.length := uF r.length d r r' (Nat.le_refl _) h
theorem gL : ∀ (n m : Nat) (r : List UInt8),r.length <= n -> r.length <= m -> xc n r = xc m r
 | 0,m,[],_,_ => by cases m <;> simp [xc]
 | n + 1,m,[],_,_ => by cases m <;> simp [xc]
 | 0,m,c :: r,h,_ => by simp at h
 | n + 1,0,c :: r,_,h => by simp at h
 | n + 1,m + 1,c :: r,h1,h2 => by
  simp only [List.length_cons] at h1 h2; rw [xc,xc]
  split
  ·exact gL n m r (by omega) (by omega)
  ·split
   ·split
    ·rfl
    ·rename_i r' hc
     obtain ⟨p,hp,_⟩ := vL hc
     have hlen : (c :: r).length = p.length + r'.length := by rw [hp]; simp
     simp only [List.length_cons] at hlen
     exact gL n m r' (by omega) (by omega)
   ·rfl
theorem pm {c : UInt8} {r : List UInt8} (h : vk c.toNat = true) : skp (c :: r) = skp r := by
 show xc (r.length + 1) (c :: r) = xc r.length r
 rw [xc,if_pos h]
theorem nI {c : UInt8} {r : List UInt8} (h : vk c.toNat = false) (hs : zM (c :: r) 40 42 = true) (hc : cmt 0 (c :: r) = none) : skp (c :: r) = .error (c :: r) := by
 show xc (r.length + 1) (c :: r) = _
 rw [xc,if_neg (by simp [h]),if_pos hs,hc]
theorem oH {c : UInt8} {r r' : List UInt8} (h : vk c.toNat = false) (hs : zM (c :: r) 40 42 = true) (hc : cmt 0 (c :: r) = some r') : skp (c :: r) = skp r' := by
 show xc (r.length + 1) (c :: r) = xc r'.length r'
 rw [xc,if_neg (by simp [h]),if_pos hs,hc]; obtain ⟨p,d,_⟩ := vL hc
 have b : (c :: r).length = p.length + r'.length := by rw [d]; simp
 simp only [List.length_cons] at b
 exact gL _ _ r' (by omega) (by omega)
theorem oy {c : UInt8} {r : List UInt8} (h : vk c.toNat = false) (hs : zM (c :: r) 40 42 = false) : skp (c :: r) = .ok (c :: r) := by
 show xc (r.length + 1) (c :: r) = _
 rw [xc,if_neg (by simp [h]),if_neg (by simp [hs])]
theorem ux : ∀ (n : Nat) (r r' : List UInt8),xc n r = .ok r' -> ∃ p : List UInt8,r = p ++ r'
 | 0,r,r',h => ⟨[],by simp [xc] at h; simp [h]⟩
 | n + 1,[],r',h => ⟨[],by simp [xc] at h; simp [h]⟩
 | n + 1,c :: r,r',h => by
  rw [xc] at h
  split at h
  ·obtain ⟨p,hp⟩ := ux n r r' h
   exact ⟨c :: p,by simp [hp]⟩
  ·split at h
   ·split at h
    ·simp at h
    ·rename_i r1 hc
     obtain ⟨p,hp,_⟩ := vL hc; obtain ⟨p2,hp2⟩ := ux n r1 r' h
     exact ⟨p ++ p2,by rw [hp,hp2]; simp⟩
   ·simp only [Except.ok.injEq] at h
    exact ⟨[],by simp [h]⟩
theorem uu {r r' : List UInt8} (h : skp r = .ok r') : ∃ p : List UInt8,r = p ++ r' := ux _ r r' h
set_option maxHeartbeats 400000
theorem yh (r : Int) (w : World) :
  Calls Tryz.prog 128 #[.int .i32 r] w fun e w' => e = .returned (.bool (zE r)) /\ w' = w := by
 by_cases c : 97 <= r
 ·by_cases d : r <= 122
  ·have b : zE r = true := by simp [zE]; omega
   rw [b]
   go_enter Tryz.func128,Tryz.ntmps128
   go_wp2
   go_ret
   first | exact ⟨rfl,rfl⟩ | (refine ⟨?_,rfl⟩; simp; omega)
  ·have b : zE r = false := by simp [zE]; omega
   rw [b]
   go_enter Tryz.func128,Tryz.ntmps128
   go_wp2
   go_ret
   first | exact ⟨rfl,rfl⟩ | (refine ⟨?_,rfl⟩; simp; omega)
 ·by_cases f : 65 <= r
  ·by_cases g : r <= 90
   ·have b : zE r = true := by simp [zE]; omega
    rw [b]
    go_enter Tryz.func128,Tryz.ntmps128
    go_wp2
    go_ret
    first | exact ⟨rfl,rfl⟩ | (refine ⟨?_,rfl⟩; simp; omega)
   ·have b : zE r = false := by simp [zE]; omega
    rw [b]
    go_enter Tryz.func128,Tryz.ntmps128
    go_wp2
    go_ret
    first | exact ⟨rfl,rfl⟩ | (refine ⟨?_,rfl⟩; simp; omega)
  ·have b : zE r = false := by simp [zE]; omega
   rw [b]
   go_enter Tryz.func128,Tryz.ntmps128
   go_wp2
   go_ret
   first | exact ⟨rfl,rfl⟩ | (refine ⟨?_,rfl⟩; simp; omega)
theorem yo (r : Int) (w : World) :
  Calls Tryz.prog 132 #[.int .i32 r] w fun e w' => e = .returned (.bool (zA r)) /\ w' = w := by
 by_cases c : 48 <= r
 ·by_cases d : r <= 57
  ·have b : zA r = true := by simp [zA]; omega
   rw [b]
   go_enter Tryz.func132,Tryz.ntmps132
   go_wp2
   go_ret
   first | exact ⟨rfl,rfl⟩ | (refine ⟨?_,rfl⟩; simp; omega)
  ·have b : zA r = false := by simp [zA]; omega
   rw [b]
   go_enter Tryz.func132,Tryz.ntmps132
   go_wp2
   go_ret
   first | exact ⟨rfl,rfl⟩ | (refine ⟨?_,rfl⟩; simp; omega)
 ·have b : zA r = false := by simp [zA]; omega
  rw [b]
  go_enter Tryz.func132,Tryz.ntmps132
  go_wp2
  go_ret
  first | exact ⟨rfl,rfl⟩ | (refine ⟨?_,rfl⟩; simp; omega)
theorem rC (r : Int) (w : World) :
  Calls Tryz.prog 130 #[.int .i32 r] w fun e w' => e = .returned (.bool (lod r)) /\ w' = w := by
 show Calls Tryz.prog 130 #[.int .i32 r] w fun e w' => e = .returned (.bool (zE r || zA r)) /\ w' = w
 cases b : zE r
 ·go_enter Tryz.func130,Tryz.ntmps130
  go_wp2_with (first | (go_at_call 128; refine (yh _ _).mono ?_; rintro e w' ⟨rfl,rfl⟩; simp only [b]) | (go_at_call 132; refine (yo _ _).mono ?_; rintro e w' ⟨rfl,rfl⟩))
  go_ret
  exact ⟨by simp,rfl⟩
 ·go_enter Tryz.func130,Tryz.ntmps130
  go_wp2_with (first | (go_at_call 128; refine (yh _ _).mono ?_; rintro e w' ⟨rfl,rfl⟩; simp only [b]) | (go_at_call 132; refine (yo _ _).mono ?_; rintro e w' ⟨rfl,rfl⟩))
  go_ret
  exact ⟨by simp,rfl⟩
theorem jr (r : Int) (w : World) :
  Calls Tryz.prog 124 #[.int .u8 r] w fun e w' => e = .returned (.bool (vk r)) /\ w' = w := by
 by_cases b : r = 32
 ·subst b
  go_enter Tryz.func124,Tryz.ntmps124
  go_wp2
  go_ret
  exact ⟨rfl,rfl⟩
 ·have g : (r == 32) = false := by simp [b]
  by_cases c : r = 9
  ·subst c
   go_enter Tryz.func124,Tryz.ntmps124
   go_wp2
   go_ret
   exact ⟨rfl,rfl⟩
  ·have h : (r == 9) = false := by simp [c]
   by_cases d : r = 13
   ·subst d
    go_enter Tryz.func124,Tryz.ntmps124
    go_wp2
    go_ret
    exact ⟨rfl,rfl⟩
   ·have i : (r == 13) = false := by simp [d]
    have f : vk r = (r == 10) := by simp [vk,b,c,d]; rfl
    rw [f]; clear f b c d
    go_enter Tryz.func124,Tryz.ntmps124
    go_wp2
    go_ret
    exact ⟨rfl,rfl⟩
theorem xO (s : ByteArray) : s.toList = s.data.toList := Lib.toList_data s
theorem yt (s : ByteArray) (k : Nat) : (s.extract k s.size).data.toList = s.data.toList.drop k := Lib.extract_to_end s k
theorem uD (s : ByteArray) (k : Nat) : (s.extract 0 k).data.toList = s.data.toList.take k := by rw [Lib.extract_data]; simp
theorem zB (s : ByteArray) : s.size = s.data.toList.length := Lib.size_eq s
theorem jA (s : ByteArray) (a b : UInt8) (w : World) (hs : s.size <= maxLen) :
  Calls Tryz.prog 125 #[.string s,.string ⟨#[a,b]⟩] w fun e w' => e = .returned (.bool (zM s.data.toList a b)) /\ w' = w := by
 unfold maxLen at hs
 by_cases c : 2 <= s.size
 ·go_enter Tryz.func125,Tryz.ntmps125
  go_wp2
  go_ret
  exact ⟨by simp [zM,xO],rfl⟩
 ·have d : zM s.data.toList a b = false := by
   unfold zM
   rw [beq_eq_false_iff_ne]; intro h; have := congrArg List.length h; rw [zB] at c; simp only [List.length_take,List.length_cons,List.length_nil] at this
   omega
  rw [d]
  have f : s.size < 2 := by omega
  clear c d
  go_enter Tryz.func125,Tryz.ntmps125
  go_wp2
  go_ret
  exact ⟨rfl,rfl⟩
theorem yJ (b : Nat) (s : ByteArray) (k : Nat) (w : World) (_hs : s.size <= maxLen) (hk : k <= s.size)
  (c0 : w.cell? ⟨b,0,none⟩ = some (.string s)) (c1 : w.cell? ⟨b,1,none⟩ = some (.int .i64 k)) :
  Calls Tryz.prog 126 #[.pointer (some ⟨b,0,none⟩)] w fun e w' => e = .returned (.string (s.extract k s.size)) /\ ∃ n,w' = w.drewN n := by
 unfold maxLen at _hs
 go_enter Tryz.func126,Tryz.ntmps126
 go_wp2
 go_quiet (fail)
 go_wp2
 go_ret
 exact ⟨rfl,_,rfl⟩
set_option maxHeartbeats 1000000
set_option maxRecDepth 1000000
theorem ze {p : Prop} (h : p) : Hid p := h
theorem xK {p : Prop} (h : Hid p) : p := h
theorem yC (w : World) (s : ByteArray) (k : Nat) : w.grownBy (w.iter s k) none := World.grownBy_alloc w _ none
theorem tO {n : Int} (h : 128 <= n) : lod n = false := by simp [lod,zE,zA]; omega
theorem vE {n : Int} (h : 128 <= n) : zA n = false := by simp [zA]; omega
theorem jh (p : UInt8 -> Bool) : ∀ (l : List UInt8) (k : Nat),k <= l.length -> (∀ j (h : j < l.length),j < k -> p l[j] = true) -> (∀ h : k < l.length,p l[k] = false) -> l.takeWhile p = l.take k
 | [],k,_,_,_ => by simp
 | a :: l,0,_,_,h2 => by
  have := h2 (by simp); simp only [List.getElem_cons_zero] at this
  simp [List.takeWhile,this]
 | a :: l,k + 1,hk,h1,h2 => by
  have ha := h1 0 (by simp) (by omega); simp only [List.getElem_cons_zero] at ha; simp only [List.takeWhile,ha,List.take_succ_cons]; rw [jh p l k (by simpa using hk) (fun j h hj => h1 (j + 1) (by simpa using h) (by omega)) (fun h => h2 (by simpa using h))]
theorem jf {p : Int -> Bool} (s : ByteArray) (k : Nat) (hk : k <= s.size) (h1 : ∀ (j : Nat) (h : j < s.size),j < k -> p (s[j]'h).toNat = true) (h2 : ∀ h : k < s.size,p (s[k]'h).toNat = false) : zY p s.data.toList = s.data.toList.take k := by
 refine jh _ _ _ (by rw [<- zB]; exact hk) (fun j h hj => ?_) (fun h => ?_)
 ·exact h1 j (by rw [zB]; exact h) hj
 ·exact h2 (by rw [zB]; exact h)
theorem ki {p : Int -> Bool} (s : ByteArray) (k : Nat) (hk : k <= s.size) (h1 : ∀ (j : Nat) (h : j < s.size),j < k -> p (s[j]'h).toNat = true) (h2 : ¬ k < s.size) : zY p s.data.toList = s.data.toList := by
 rw [jf s k hk h1 (fun h => absurd h h2),List.take_of_length_le]; rw [<- zB]; omega
theorem dz (s : ByteArray) (c : UInt8) (w : World) :
  Calls Tryz.prog 168 #[.string s,.int .u8 c.toNat] w fun e w' => e = .returned (.int .i64 (Lib.indexByte s.data.toList c)) /\ w' = w := by
 have hx := @run_callFunc_extern Tryz.prog 209 _ _ Tryz.func209 (by kernel_rfl) (by kernel_rfl) (by kernel_rfl) rfl
 have hy := fun w => Lib.run_indexByteString (P := Tryz.prog) s c.toNat w
 simp only [Int.toNat_natCast,Nat.toUInt8_eq,UInt8.ofNat_toNat] at hy
 go_enter Tryz.func168,Tryz.ntmps168
 go_wp2
 go_ret
 exact ⟨rfl,rfl⟩
theorem jm (p : Value) (k n : Int) (w : World) :
  Calls Tryz.prog 131 #[p,.int .i64 k,.int .i64 n] w fun e w' => e = .panicked [{ v := .iface 103 (.pointer (some ⟨w.heap.size,0,none⟩)),recovered := false }] /\ w' = w.alloc (.cells #[.int .i64 0,.int .i64 k,.iface 56 (.int .i64 n)] 113) := by
 go_enter Tryz.func131,Tryz.ntmps131
 go_wp2
 exact ⟨rfl,rfl,rfl⟩
theorem sj (s : ByteArray) (w : World) (_hs : s.size <= maxLen) :
  Calls Tryz.prog 129 #[.string s,.func (.func 130) #[] #[]] w fun e w' => ∃ x : ByteArray,e = .returned (.string x) /\ x.data.toList = zY lod s.data.toList /\ w.grownBy w' none := by
 unfold maxLen at _hs
 go_enter Tryz.func129,Tryz.ntmps129
 go_wp2
 go_loopw [6] (fun _ wr => ∃ k : Nat,wr = w.iter s k /\ k <= s.size /\ ∀ (j : Nat) (h : j < s.size),j < k -> lod (s[j]'h).toNat = true) (fun _ wr => s.size - wr.iterPos w.heap.size)
 case atStart => exact ⟨0,rfl,Nat.zero_le _,fun j h hj => by omega⟩
 case round =>
  obtain ⟨k,rfl,hk,HB⟩ := hrel; have HB' := ze HB; clear HB
  by_cases hlt : k < s.size
  ·have hnx : ∀ ty,(Instr.next (.pointer (some ⟨w.heap.size,0,none⟩)) true ty).run Tryz.prog (w.iter s k) = _ := fun ty => run_next_any w s k ty hlt
   cases hp : lod (s[k]'hlt).toNat
   ·have hno : lod (Utf8.decode s k).1 = false := by
     by_cases ha : (s[k]'hlt).toNat < 128
     ·rw [decode_ascii s k hlt ha]; exact hp
     ·exact tO (by have := (decode_high s k hlt (by omega)).1; omega)
    have Hp := ze hp; clear hp
    go_wp2_with (go_at_call 130; refine (rC _ _).mono ?_; rintro e w' ⟨rfl,rfl⟩; simp only [hno])
    go_ret
    exact ⟨_,rfl,by rw [uD]; exact (jf s k hk (xK HB') (fun h => xK Hp)).symm,yC w s _⟩
   ·have ha : (s[k]'hlt).toNat < 128 := by
     rcases Nat.lt_or_ge (s[k]'hlt).toNat 128 with h | h
     ·exact h
     ·rw [tO (by omega)] at hp; cases hp
    rw [decode_ascii s k hlt ha] at hnx; have hyes : lod ((s[k]'hlt).toNat : Nat) = true := hp; have Hp := ze hp; clear hp
    go_wp2_with (go_at_call 130; refine (rC _ _).mono ?_; rintro e w' ⟨rfl,rfl⟩; simp only [hyes])
    go_roundw
    case rel => exact ⟨k + 1,rfl,by omega,fun j h hj => by
     rcases Nat.lt_or_ge j k with h1 | h1
     ·exact xK HB' j h h1
     ·obtain rfl : j = k := by omega
      exact xK Hp⟩
    case measure => simp; omega
  ·have hnx : ∀ ty,(Instr.next (.pointer (some ⟨w.heap.size,0,none⟩)) true ty).run Tryz.prog (w.iter s k) = _ := fun ty => run_next_end w s k ty hlt
   go_wp2
   go_ret
   exact ⟨_,rfl,(ki s k hk (xK HB') hlt).symm,yC w s _⟩
theorem gT (s : ByteArray) (w : World) (_hs : s.size <= maxLen) :
  Calls Tryz.prog 129 #[.string s,.func (.func 132) #[] #[]] w fun e w' => ∃ x : ByteArray,e = .returned (.string x) /\ x.data.toList = zY zA s.data.toList /\ w.grownBy w' none := by
 unfold maxLen at _hs
 go_enter Tryz.func129,Tryz.ntmps129
 go_wp2
 go_loopw [6] (fun _ wr => ∃ k : Nat,wr = w.iter s k /\ k <= s.size /\ ∀ (j : Nat) (h : j < s.size),j < k -> zA (s[j]'h).toNat = true) (fun _ wr => s.size - wr.iterPos w.heap.size)
 case atStart => exact ⟨0,rfl,Nat.zero_le _,fun j h hj => by omega⟩
 case round =>
  obtain ⟨k,rfl,hk,HB⟩ := hrel; have HB' := ze HB; clear HB
  by_cases hlt : k < s.size
  ·have hnx : ∀ ty,(Instr.next (.pointer (some ⟨w.heap.size,0,none⟩)) true ty).run Tryz.prog (w.iter s k) = _ := fun ty => run_next_any w s k ty hlt
   cases hp : zA (s[k]'hlt).toNat
   ·have hno : zA (Utf8.decode s k).1 = false := by
     by_cases ha : (s[k]'hlt).toNat < 128
     ·rw [decode_ascii s k hlt ha]; exact hp
     ·exact vE (by have := (decode_high s k hlt (by omega)).1; omega)
    have Hp := ze hp; clear hp
    go_wp2_with (go_at_call 132; refine (yo _ _).mono ?_; rintro e w' ⟨rfl,rfl⟩; simp only [hno])
    go_ret
    exact ⟨_,rfl,by rw [uD]; exact (jf s k hk (xK HB') (fun h => xK Hp)).symm,yC w s _⟩
   ·have ha : (s[k]'hlt).toNat < 128 := by
     rcases Nat.lt_or_ge (s[k]'hlt).toNat 128 with h | h
     ·exact h
     ·rw [vE (by omega)] at hp; cases hp
    rw [decode_ascii s k hlt ha] at hnx; have hyes : zA ((s[k]'hlt).toNat : Nat) = true := hp; have Hp := ze hp; clear hp
    go_wp2_with (go_at_call 132; refine (yo _ _).mono ?_; rintro e w' ⟨rfl,rfl⟩; simp only [hyes])
    go_roundw
    case rel => exact ⟨k + 1,rfl,by omega,fun j h hj => by
     rcases Nat.lt_or_ge j k with h1 | h1
     ·exact xK HB' j h h1
     ·obtain rfl : j = k := by omega
      exact xK Hp⟩
    case measure => simp; omega
  ·have hnx : ∀ ty,(Instr.next (.pointer (some ⟨w.heap.size,0,none⟩)) true ty).run Tryz.prog (w.iter s k) = _ := fun ty => run_next_end w s k ty hlt
   go_wp2
   go_ret
   exact ⟨_,rfl,(ki s k hk (xK HB') hlt).symm,yC w s _⟩
theorem jR (s : ByteArray) (k : Nat) (h : k < s.size) : s.data.toList.drop k = s[k] :: s.data.toList.drop (k + 1) := by
 rw [List.drop_eq_getElem_cons (by rw [<- zB]; exact h)]; rfl
theorem fy {v : Int} {c : UInt8} {l : List UInt8} (h : (2147483647 - ((c.toNat : Int) - 48)) / 10 < v) : zX v (c :: l) = none := by
 rw [zX,if_pos h]
theorem dV {v : Int} {c : UInt8} {l : List UInt8} (h : ¬ (2147483647 - ((c.toNat : Int) - 48)) / 10 < v) : zX v (c :: l) = zX (v * 10 + ((c.toNat : Int) - 48)) l := by
 rw [zX,if_neg h]
def kj : Option Int -> Ending
 | none => .returned (.tuple #[.int .i64 0,.bool false])
 | some v => .returned (.tuple #[.int .i64 v,.bool true])
theorem kB (s : ByteArray) (w : World) (_hs : s.size <= maxLen) (hne : s.data.toList.isEmpty = false)
  (hd : ∀ (j : Nat) (h : j < s.size),zA (s[j]'h).toNat = true) :
  Calls Tryz.prog 133 #[.string s] w fun e w' => e = kj (zX 0 s.data.toList) /\ w.grownBy w' none := by
 unfold maxLen at _hs
 have HD := ze hd; have HE := ze hne
 have hemp : (s.toList == []) = false := by rw [xO]; cases h : s.data.toList with | nil => rw [h] at hne; cases hne | cons a l => rfl
 clear hd hne
 go_enter Tryz.func133,Tryz.ntmps133
 go_wp2
 go_loopw [2] (fun v wr => ∃ (k : Nat) (n : Int),wr = w.iter s k /\ k <= s.size /\ v = .int .i64 n /\ 0 <= n /\ n <= 2147483647 /\ Hid (zX n (s.data.toList.drop k) = zX 0 s.data.toList)) (fun _ wr => s.size - wr.iterPos w.heap.size)
 case atStart => exact ⟨0,0,rfl,Nat.zero_le _,rfl,by omega,by omega,rfl⟩
 case round =>
  obtain ⟨k,n,rfl,_,rfl,_,_,HB⟩ := hrel
  by_cases hlt : k < s.size
  ·have hdk := xK HD k hlt
   have hb1 : 48 <= ((s[k]'hlt).toNat : Int) := by simp [zA] at hdk; omega
   have hb2 : ((s[k]'hlt).toNat : Int) <= 57 := by simp [zA] at hdk; omega
   have hnx : ∀ ty,(Instr.next (.pointer (some ⟨w.heap.size,0,none⟩)) true ty).run Tryz.prog (w.iter s k) = _ := fun ty => run_next_ascii w s k ty hlt (by omega)
   have HX := HB.out; rw [jR s k hlt] at HX
   by_cases hv : (2147483647 - (((s[k]'hlt).toNat : Int) - 48)) / 10 < n
   ·rw [fy hv] at HX
    have H2 := ze HX; clear HX HB HD HE
    go_wp2_with (go_at_call 132; refine (yo _ _).mono ?_; rintro e w' ⟨rfl,rfl⟩; simp only [hdk])
    go_ret2
    exact ⟨by rw [<- H2.out]; rfl,yC w s _⟩
   ·rw [dV hv] at HX
    have H2 := ze HX; clear HX HB
    go_wp2_with (go_at_call 132; refine (yo _ _).mono ?_; rintro e w' ⟨rfl,rfl⟩; simp only [hdk])
    go_roundw
    case rel => exact ⟨k + 1,n * 10 + (((s[k]'hlt).toNat : Int) - 48),rfl,by omega,rfl,by omega,by omega,H2⟩
    case measure => simp; omega
  ·have hnx : ∀ ty,(Instr.next (.pointer (some ⟨w.heap.size,0,none⟩)) true ty).run Tryz.prog (w.iter s k) = _ := fun ty => run_next_end w s k ty hlt
   have HX := HB.out; rw [List.drop_eq_nil_of_le (by rw [<- zB]; omega)] at HX; have H2 := ze HX; clear HX HB HD HE; go_wp2
   go_ret2
   exact ⟨by rw [<- H2.out]; rfl,yC w s _⟩
theorem js (s : ByteArray) (a b : UInt8) : ((s.extract 0 2).toList == [a,b]) = zM s.data.toList a b := by
 rw [xO,uD]; rfl
theorem dK (l : List UInt8) (c : UInt8) : -1 <= Lib.indexByte l c := by
 induction l with
 | nil => simp [Lib.indexByte]
 | cons a l ih =>
  rw [Lib.indexByte]
  split
  ·omega
  ·split
   ·omega
   ·omega
theorem xW (l : List UInt8) (c : UInt8) : (0 <= Lib.indexByte l c) ↔ l.contains c = true := by
 induction l with
 | nil => simp [Lib.indexByte]
 | cons a l ih =>
  have hg := dK l c; rw [Lib.indexByte,List.contains_cons]
  by_cases h : a = c
  ·subst h; simp
  ·have h1 : (a == c) = false := by simpa using h
   have h2 : (c == a) = false := by simpa using fun e => h e.symm
   rw [h1,h2]; simp only [Bool.false_eq_true,if_false,Bool.false_or]; rw [<- ih]
   by_cases hi : Lib.indexByte l c = -1
   ·simp [hi]
   ·have : (Lib.indexByte l c == -1) = false := by simpa using hi
    rw [this]; simp only [Bool.false_eq_true,if_false]
    omega
theorem uA : (⟨#[61,35,60,62,43,45,42,38,126,40,41,91,93,123,125,44,59,58,46,94]⟩ : ByteArray).data.toList = jw := rfl
theorem jl (s : ByteArray) (h : 0 < s.size) : s.data.toList.headD 0 = s[0] /\ s.data.toList.take 1 = [s[0]] := by
 have := jR s 0 h; simp only [List.drop_zero] at this; rw [this]; simp
theorem dt {l : List UInt8} {a b : UInt8} (h : l.length < 2) : zM l a b = false := by
 unfold zM
 rw [beq_eq_false_iff_ne]; intro e; have := congrArg List.length e; simp only [List.length_take,List.length_cons,List.length_nil] at this
 omega
theorem tF (s : ByteArray) (w : World) (hs : s.size <= maxLen) (h0 : 0 < s.size) :
  Calls Tryz.prog 134 #[.string s] w fun e w' => ∃ x : ByteArray,e = .returned (.string x) /\ x.data.toList = ye s.data.toList /\ w' = w := by
 unfold maxLen at hs
 obtain ⟨hh,ht⟩ := jl s h0
 have key : (zM s.data.toList 58 61 || zM s.data.toList 60 61 || zM s.data.toList 62 61) = false -> (ye s.data.toList = if jw.contains s[0] then [s[0]] else []) := by
  intro h
  unfold ye
  rw [h,hh,ht]
  simp
 have hone : (s.extract 0 1).data.toList = [s[0]] := by rw [uD,ht]
 by_cases h2 : 1 < s.size
 ·cases e1 : zM s.data.toList 58 61
  ·cases e2 : zM s.data.toList 60 61
   ·cases e3 : zM s.data.toList 62 61
    ·have key2 := key (by simp [e1,e2,e3])
     rw [<- js] at e1 e2 e3; cases hc : jw.contains s[0]
     ·have key2 : ye s.data.toList = [] := by rw [key2,hc]; rfl
      have hn : ¬ (0 : Int) <= Lib.indexByte jw s[0] := by rw [xW,hc]; simp
      have K := ze key2; clear key key2 hh ht hone hc
      go_enter Tryz.func134,Tryz.ntmps134
      go_wp2_with (go_at_call 168; refine (dz _ _ _).mono ?_; rintro e w' ⟨rfl,rfl⟩; rw [uA])
      go_ret
      exact ⟨_,rfl,by rw [K.out],rfl⟩
     ·have key2 : ye s.data.toList = [s[0]] := by rw [key2,hc]; rfl
      have hn : (0 : Int) <= Lib.indexByte jw s[0] := by rw [xW,hc]
      have K := ze key2; have K1 := ze hone; clear key key2 hh ht hone hc
      go_enter Tryz.func134,Tryz.ntmps134
      go_wp2_with (go_at_call 168; refine (dz _ _ _).mono ?_; rintro e w' ⟨rfl,rfl⟩; rw [uA])
      go_ret
      exact ⟨_,rfl,by rw [K.out]; exact K1.out,rfl⟩
    ·have K : Hid (ye s.data.toList = s.data.toList.take 2) := by unfold ye; rw [if_pos (by simp [e1,e2,e3])]; rfl
     rw [<- js] at e1 e2 e3; clear key hh ht hone
     go_enter Tryz.func134,Tryz.ntmps134
     go_wp2
     go_ret
     exact ⟨_,rfl,by rw [K.out]; exact uD _ _,rfl⟩
   ·have K : Hid (ye s.data.toList = s.data.toList.take 2) := by unfold ye; rw [if_pos (by simp [e1,e2])]; rfl
    rw [<- js] at e1 e2; clear key hh ht hone
    go_enter Tryz.func134,Tryz.ntmps134
    go_wp2
    go_ret
    exact ⟨_,rfl,by rw [K.out]; exact uD _ _,rfl⟩
  ·have K : Hid (ye s.data.toList = s.data.toList.take 2) := by unfold ye; rw [if_pos (by simp [e1])]; rfl
   rw [<- js] at e1; clear key hh ht hone
   go_enter Tryz.func134,Tryz.ntmps134
   go_wp2
   go_ret
   exact ⟨_,rfl,by rw [K.out]; exact uD _ _,rfl⟩
 ·have hl : s.data.toList.length < 2 := by rw [<- zB]; omega
  have key2 := key (by simp [dt hl]); cases hc : jw.contains s[0]
  ·have key2 : ye s.data.toList = [] := by rw [key2,hc]; rfl
   have hn : ¬ (0 : Int) <= Lib.indexByte jw s[0] := by rw [xW,hc]; simp
   have K := ze key2; clear key key2 hh ht hone hc hl
   go_enter Tryz.func134,Tryz.ntmps134
   go_wp2_with (go_at_call 168; refine (dz _ _ _).mono ?_; rintro e w' ⟨rfl,rfl⟩; rw [uA])
   go_ret
   exact ⟨_,rfl,by rw [K.out],rfl⟩
  ·have key2 : ye s.data.toList = [s[0]] := by rw [key2,hc]; rfl
   have hn : (0 : Int) <= Lib.indexByte jw s[0] := by rw [xW,hc]
   have K := ze key2; have K1 := ze hone; clear key key2 hh ht hone hc hl
   go_enter Tryz.func134,Tryz.ntmps134
   go_wp2_with (go_at_call 168; refine (dz _ _ _).mono ?_; rintro e w' ⟨rfl,rfl⟩; rw [uA])
   go_ret
   exact ⟨_,rfl,by rw [K.out]; exact K1.out,rfl⟩
structure Sc (w : World) (b : Nat) (s : ByteArray) (k : Nat) : Prop where
 c0 : w.cell? ⟨b,0,none⟩ = some (.string s)
 c1 : w.cell? ⟨b,1,none⟩ = some (.int .i64 k)
 f1 : w.frozen? ⟨b,1,none⟩ = false
def atOf (w : World) (b : Nat) : Nat := match w.cell? ⟨b,1,none⟩ with | some v => (intOf v).toNat | none => 0
theorem Sc.atOf {w : World} {b : Nat} {s : ByteArray} {k : Nat} (h : Sc w b s k) : atOf w b = k := by
 unfold Proofs.YtnmkffjklpfflaaGreatDoor.atOf; rw [h.c1]; rfl
theorem Sc.drewN {w : World} {b : Nat} {s : ByteArray} {k : Nat} (h : Sc w b s k) (n : Nat) : Sc (w.drewN n) b s k := ⟨by simpa using h.c0,by simpa using h.c1,by simpa using h.f1⟩
theorem Sc.set {w : World} {b : Nat} {s : ByteArray} {k : Nat} (h : Sc w b s k) (k' : Nat) : Sc (w.setCell ⟨b,1,none⟩ (.int .i64 k')) b s k' :=
 ⟨by rw [World.cell?_setCell_other _ _ _ _ (by simp)]; exact h.c0,World.cell?_setCell_same _ _ _ h.c1,by rw [World.frozen?_setCell]; exact h.f1⟩
theorem Sc.setI {w : World} {b : Nat} {s : ByteArray} {k : Nat} (h : Sc w b s k) (v : Int) (k' : Nat) (hv : v = k') : Sc (w.setCell ⟨b,1,none⟩ (.int .i64 v)) b s k' := by
 subst hv; exact h.set k'
theorem Sc.lt {w : World} {b : Nat} {s : ByteArray} {k : Nat} (h : Sc w b s k) : b < w.heap.size := by
 rcases Nat.lt_or_ge b w.heap.size with h' | h'
 ·exact h'
 ·have := h.c0
  simp [World.cell?,Array.getElem?_eq_none h'] at this
theorem Sc.kept {w w' : World} {b : Nat} {s : ByteArray} {k : Nat} {row : Option Nat} (h : Sc w b s k) (hg : w.grownBy w' row) (hr : row ≠ some b) : Sc w' b s k :=
  ⟨by rw [World.cell?_of_block (w := w) (hg.block b h.lt (fun e => hr e.symm))]; exact h.c0,
   by rw [World.cell?_of_block (w := w) (hg.block b h.lt (fun e => hr e.symm))]; exact h.c1,
   by rw [World.frozen?_of_block (w := w) (hg.block b h.lt (fun e => hr e.symm))]; exact h.f1⟩
theorem zc (w : World) (row : Option Nat) : w.grownBy w row := ⟨rfl,rfl,rfl,Nat.le_refl _,fun _ _ _ => rfl⟩
theorem zo {a w : World} {row : Option Nat} (h : a.grownBy w row) (n : Nat) : a.grownBy (w.drewN n) row := ⟨h.os,h.tape,h.output,h.size,h.block⟩
theorem za {a b c : World} {row : Option Nat} (h : a.grownBy b row) (k : b.grownBy c row) : a.grownBy c row :=
 ⟨k.os.trans h.os,k.tape.trans h.tape,k.output.trans h.output,Nat.le_trans h.size k.size,fun i hi hr => (k.block i (Nat.lt_of_lt_of_le hi h.size) hr).trans (h.block i hi hr)⟩
theorem zR {a w : World} {b : Nat} (h : a.grownBy w (some b)) (o : Nat) (v : Value) : a.grownBy (w.setCell ⟨b,o,none⟩ v) (some b) :=
 za h ⟨rfl,rfl,rfl,by simp [World.setCell],fun i _ hr => Below.heap_setCell _ _ _ _ (fun e => hr (by rw [e]))⟩
theorem zf {a w : World} {row : Option Nat} (h : a.grownBy w row) (o : Obj) : a.grownBy (w.alloc o) row := za h (World.grownBy_alloc w o row)
theorem zv {a w : World} (h : a.grownBy w none) (row : Option Nat) : a.grownBy w row := ⟨h.os,h.tape,h.output,h.size,fun i hi _ => h.block i hi (by simp)⟩
def Threw (w : World) (k n : Int) (e : Ending) (w' : World) : Prop :=
 ∃ q,e = .panicked [{ v := .iface 103 (.pointer (some ⟨q,0,none⟩)),recovered := false }] /\ w.heap.size <= q /\
  w'.cell? ⟨q,0,none⟩ = some (.int .i64 0) /\ w'.cell? ⟨q,1,none⟩ = some (.int .i64 k) /\ w'.cell? ⟨q,2,none⟩ = some (.iface 56 (.int .i64 n))
theorem kG {w wr : World} {nq : Nat} {k n : Int} (h : w.heap.size <= wr.heap.size) :
  Threw w k n (.panicked [{ v := .iface 103 (.pointer (some ⟨wr.heap.size,0,none⟩)),recovered := false }]) ((wr.drewN nq).alloc (.cells #[.int .i64 0,.int .i64 k,.iface 56 (.int .i64 n)] 113)) :=
 ⟨wr.heap.size,rfl,h,by rw [World.cell?_alloc_at _ _ _ _ (by simp)]; rfl,by rw [World.cell?_alloc_at _ _ _ _ (by simp)]; rfl,by rw [World.cell?_alloc_at _ _ _ _ (by simp)]; rfl⟩
theorem mj {d : Nat} {r : List UInt8} (h : zM r 40 42 = true) : cmt d r = cmt (d + 1) (r.drop 2) := by
 match r,h with
 | [],h => simp [zM] at h
 | [a],h => simp [zM] at h
 | a :: b :: r,h =>
  simp [zM] at h
  rw [qK,if_pos h]; rfl
theorem rJ {d : Nat} {r : List UInt8} (h1 : zM r 40 42 = false) (h : zM r 42 41 = true) : cmt d r = if d <= 1 then some (r.drop 2) else cmt (d - 1) (r.drop 2) := by
 match r,h with
 | [],h => simp [zM] at h
 | [a],h => simp [zM] at h
 | a :: b :: r,h =>
  simp [zM] at h h1
  rw [qK,if_neg (by intro e; exact h1 e.1 e.2),if_pos h]; rfl
theorem mD {d : Nat} {r : List UInt8} (h1 : zM r 40 42 = false) (h : zM r 42 41 = false) : cmt d r = cmt d (r.drop 1) := by
 match r with
 | [] => rfl
 | [a] => simp [cmt]
 | a :: b :: r =>
  simp [zM] at h h1
  rw [qK,if_neg (by intro e; exact h1 e.1 e.2),if_neg (by intro e; exact h e.1 e.2)]; rfl
theorem ge {r : List UInt8} {a b : UInt8} (h : zM r a b = true) : 2 <= r.length := by
 match r,h with
 | [],h => simp [zM] at h
 | [a],h => simp [zM] at h
 | a :: b :: r,h => simp
theorem kY (b : Nat) (s : ByteArray) (k0 : Nat) (w : World) (hs : s.size <= 1000000000) (hk0 : k0 <= s.size) (hsc : Sc w b s k0) (hst : zM (s.data.toList.drop k0) 40 42 = true) :
  Calls Tryz.prog 127 #[.pointer (some ⟨b,0,none⟩)] w fun e w' =>
   (∀ r',cmt 0 (s.data.toList.drop k0) = some r' -> e = .returned (.tuple #[]) /\ Sc w' b s (s.size - r'.length) /\ w.grownBy w' (some b)) /\
   (cmt 0 (s.data.toList.drop k0) = none -> Threw w k0 2 e w' /\ w.grownBy w' (some b)) := by
 have c0 := hsc.c0; have c1 := hsc.c1; have HST := ze hst; clear hst
 go_enter Tryz.func127,Tryz.ntmps127
 go_wp2; clear c0 c1
 go_loopw [3] (fun d wr => ∃ dn k : Nat,d = .int .i64 dn /\ k <= s.size /\ Sc wr b s k /\ w.grownBy wr (some b) /\ Hid (cmt dn (s.data.toList.drop k) = cmt 0 (s.data.toList.drop k0)) /\ (dn = 0 -> k = k0) /\ dn <= k) (fun _ wr => s.size - atOf wr b)
 case atStart => exact ⟨0,k0,rfl,hk0,hsc,zc _ _,rfl,fun _ => rfl,Nat.zero_le _⟩
 case round =>
  obtain ⟨dn,k,rfl,hk,hsr,hgr,HC,HZ,_⟩ := hrel; have c0 := hsr.c0; have c1 := hsr.c1; have f1 := hsr.f1; have HZ' := ze HZ; clear HZ
  have hxs : (s.extract k s.size).size <= maxLen := by unfold maxLen; rw [zB,yt,List.length_drop,<- zB]; omega
  have hsm : s.size <= maxLen := by unfold maxLen; omega
  have hea := hsr.atOf; have HSR := ze hsr; have HGR := ze hgr; clear hsr hgr
  by_cases hlt : k < s.size
  ·cases h1 : zM (s.data.toList.drop k) 40 42
   ·have hd1 : 1 <= dn := by
     rcases Nat.eq_zero_or_pos dn with h | h
     ·rw [xK HZ' h,HST.out] at h1; cases h1
     ·exact h
    cases h3 : zM (s.data.toList.drop k) 42 41
    ·have HN : Hid (cmt dn (s.data.toList.drop (k + 1)) = cmt 0 (s.data.toList.drop k0)) := by
      rw [<- HC.out,mD h1 h3,List.drop_drop]; rfl
     have hz : ((dn : Int) == 0) = false := by rw [beq_eq_false_iff_ne]; omega
     go_wp2_with fail
     go_quiet (fail)
     go_wp2_with (first | (go_at_call 126; refine (yJ b s k _ hsm hk (by simpa using c0) (by simpa using c1)).mono ?_; rintro e w' ⟨rfl,nr,rfl⟩) | (go_at_call 125; refine (jA _ _ _ _ hxs).mono ?_; rintro e w' ⟨rfl,rfl⟩; simp only [yt,h1,h3]))
     all_goals
      have hS := fun n => (HSR.out.drewN n).setI ((k : Int) + 1) (k + 1) (by omega)
      exact ⟨⟨dn,k + 1,rfl,by omega,hS _,zR (zo HGR.out _) _ _,HN,fun e => by omega,by omega⟩,by rw [(hS _).atOf,hea]; omega⟩
    ·have h2 := ge h3
     rw [List.length_drop,<- zB] at h2
     by_cases hd2 : dn = 1
     ·have HN : Hid (cmt 0 (s.data.toList.drop k0) = some (s.data.toList.drop (k + 2))) := by
       rw [<- HC.out,rJ h1 h3,if_pos (by omega),List.drop_drop]; rfl
      have hz : ((dn : Int) - 1 == 0) = true := by rw [beq_iff_eq]; omega
      clear hd2; go_wp2_with fail
      go_quiet (fail)
      go_wp2_with (first | (go_at_call 126; refine (yJ b s k _ hsm hk (by simpa using c0) (by simpa using c1)).mono ?_; rintro e w' ⟨rfl,nr,rfl⟩) | (go_at_call 125; refine (jA _ _ _ _ hxs).mono ?_; rintro e w' ⟨rfl,rfl⟩; simp only [yt,h1,h3]))
      have hS := fun n => (HSR.out.drewN n).setI ((k : Int) + 2) (k + 2) (by omega)
      refine bodyPost_ret (results_none rfl _ _ _) rfl ⟨fun r' hr => ?_,fun hr => ?_⟩
      ·rw [HN.out] at hr
       cases hr; refine ⟨rfl,?_,zR (zo HGR.out _) _ _⟩; rw [List.length_drop,<- zB,show s.size - (s.size - (k + 2)) = k + 2 from by omega]
       exact hS _
      ·rw [HN.out] at hr; cases hr
     ·have HN : Hid (cmt (dn - 1) (s.data.toList.drop (k + 2)) = cmt 0 (s.data.toList.drop k0)) := by
       rw [<- HC.out,rJ h1 h3,if_neg (by omega),List.drop_drop]; rfl
      have hz : ((dn : Int) - 1 == 0) = false := by rw [beq_eq_false_iff_ne]; omega
      have hd3 : 2 <= dn := by omega
      clear hd2; go_wp2_with fail
      go_quiet (fail)
      go_wp2_with (first | (go_at_call 126; refine (yJ b s k _ hsm hk (by simpa using c0) (by simpa using c1)).mono ?_; rintro e w' ⟨rfl,nr,rfl⟩) | (go_at_call 125; refine (jA _ _ _ _ hxs).mono ?_; rintro e w' ⟨rfl,rfl⟩; simp only [yt,h1,h3]))
      have hS := fun n => (HSR.out.drewN n).setI ((k : Int) + 2) (k + 2) (by omega)
      exact ⟨⟨dn - 1,k + 2,by rw [show ((dn : Int) - 1) = ((dn - 1 : Nat) : Int) from by omega],by omega,hS _,zR (zo HGR.out _) _ _,HN,fun e => by omega,by omega⟩,by rw [(hS _).atOf,hea]; omega⟩
   ·have h2 := ge h1
    rw [List.length_drop,<- zB] at h2
    have HN : Hid (cmt (dn + 1) (s.data.toList.drop (k + 2)) = cmt 0 (s.data.toList.drop k0)) := by
     rw [<- HC.out,mj h1,List.drop_drop]; rfl
    have hz : ((dn : Int) + 1 == 0) = false := by rw [beq_eq_false_iff_ne]; omega
    go_wp2_with fail
    go_quiet (fail)
    go_wp2_with (first | (go_at_call 126; refine (yJ b s k _ hsm hk (by simpa using c0) (by simpa using c1)).mono ?_; rintro e w' ⟨rfl,nr,rfl⟩) | (go_at_call 125; refine (jA _ _ _ _ hxs).mono ?_; rintro e w' ⟨rfl,rfl⟩; simp only [yt,h1]))
    have hS := fun n => (HSR.out.drewN n).setI ((k : Int) + 2) (k + 2) (by omega)
    exact ⟨⟨dn + 1,k + 2,by go_num,by omega,hS _,zR (zo HGR.out _) _ _,HN,fun e => by omega,by omega⟩,by rw [(hS _).atOf,hea]; omega⟩
  ·have HN : Hid (cmt 0 (s.data.toList.drop k0) = none) := by
    rw [<- HC.out,List.drop_eq_nil_of_le (by rw [<- zB]; omega),nU]; rfl
   go_wp2_with fail
   go_quiet (fail)
   go_wp2_with (go_at_call 131; refine (jm _ _ _ _).mono ?_; rintro e w' ⟨rfl,rfl⟩)
   refine ⟨rfl,fun r' hr => ?_,fun _ => ⟨kG HGR.out.size,zf (zo HGR.out _) _⟩⟩; rw [HN.out] at hr; cases hr
set_option maxHeartbeats 2000000
theorem nN {r r' : List UInt8} (h : skp r = .ok r') : r'.length <= r.length := by
 obtain ⟨_,hp⟩ := uu h; rw [hp]; simp
theorem uU {l p r : List UInt8} {k : Nat} (h : l.drop k = p ++ r) (hk : k <= l.length) : l.drop (l.length - r.length) = r := by
 have hl : l.length = k + p.length + r.length := by
  have := congrArg List.length h; simp only [List.length_drop,List.length_append] at this
  omega
 rw [show l.length - r.length = k + p.length from by omega,<- List.drop_drop,h,List.drop_left]
theorem jS (b : Nat) (s : ByteArray) (k0 : Nat) (w : World) (hs : s.size <= 1000000000) (hk0 : k0 <= s.size) (hsc : Sc w b s k0) :
  Calls Tryz.prog 83 #[.pointer (some ⟨b,0,none⟩)] w fun e w' =>
   (∀ r',skp (s.data.toList.drop k0) = .ok r' -> e = .returned (.tuple #[]) /\ Sc w' b s (s.size - r'.length) /\ w.grownBy w' (some b)) /\
   (∀ f,skp (s.data.toList.drop k0) = .error f -> Threw w ((s.size - f.length : Nat) : Int) 2 e w' /\ w.grownBy w' (some b)) := by
 go_enter Tryz.func83,Tryz.ntmps83
 go_wp2
 go_loopw [12] (fun _ wr => ∃ k : Nat,k <= s.size /\ Sc wr b s k /\ w.grownBy wr (some b) /\ Hid (skp (s.data.toList.drop k) = skp (s.data.toList.drop k0))) (fun _ wr => s.size - atOf wr b)
 case atStart => exact ⟨k0,hk0,hsc,zc _ _,rfl⟩
 case round =>
  obtain ⟨k,hk,hsr,hgr,HC⟩ := hrel; have c0 := hsr.c0; have c1 := hsr.c1; have f1 := hsr.f1
  have hxs : (s.extract k s.size).size <= maxLen := by unfold maxLen; rw [zB,yt,List.length_drop,<- zB]; omega
  have hsm : s.size <= maxLen := by unfold maxLen; omega
  have hea := hsr.atOf; have HSR := ze hsr; have HGR := ze hgr; clear hsr hgr
  by_cases hlt : k < s.size
  ·have hdr := jR s k hlt
   cases hb : vk (s[k]'hlt).toNat
   ·cases h1 : zM (s.data.toList.drop k) 40 42
    ·have HN : Hid (skp (s.data.toList.drop k0) = .ok (s.data.toList.drop k)) := by
      rw [<- HC.out]; rw [hdr] at h1 ⊢; exact oy hb h1
     clear hdr HC; go_wp2_with fail
     go_quiet (fail)
     obtain ⟨w1,hw1⟩ : ∃ w1,w1 = wr.drewN nq := ⟨_,rfl⟩; rw [<- hw1]
     have hs1 : Sc w1 b s k := by rw [hw1]; exact HSR.out.drewN nq
     have hg1 : w.grownBy w1 (some b) := by rw [hw1]; exact zo HGR.out nq
     clear c0 c1 f1; have c0 := hs1.c0; have c1 := hs1.c1; have f1 := hs1.f1; have HS1 := ze hs1; have HG1 := ze hg1; clear hw1 hs1 hg1 HSR HGR; go_wp2_with fail
     go_quiet ((go_at_call 124; exact Calls.quiet_of_same (jr _ _)))
     simp only [hb]
     go_wp2_with (first | (go_at_call 126; refine (yJ b s k _ hsm hk (by simpa using c0) (by simpa using c1)).mono ?_; rintro e w' ⟨rfl,nr,rfl⟩) | (go_at_call 125; refine (jA _ _ _ _ hxs).mono ?_; rintro e w' ⟨rfl,rfl⟩; simp only [yt,h1]))
     refine bodyPost_ret (results_none rfl _ _ _) rfl ⟨fun r' hr => ?_,fun f hf => ?_⟩
     ·rw [HN.out] at hr
      cases hr; refine ⟨rfl,?_,zo HG1.out _⟩; rw [List.length_drop,<- zB,show s.size - (s.size - k) = k from by omega]
      exact HS1.out.drewN _
     ·rw [HN.out] at hf; cases hf
    ·cases hcm : cmt 0 (s.data.toList.drop k) with
     | none =>
      have HN : Hid (skp (s.data.toList.drop k0) = .error (s.data.toList.drop k)) := by
       rw [<- HC.out]; rw [hdr] at h1 hcm ⊢; exact nI hb h1 hcm
      have HM := ze hcm; have H1 := ze h1; clear hdr HC hcm; go_wp2_with fail
      go_quiet (fail)
      obtain ⟨w1,hw1⟩ : ∃ w1,w1 = wr.drewN nq := ⟨_,rfl⟩; rw [<- hw1]
      have hs1 : Sc w1 b s k := by rw [hw1]; exact HSR.out.drewN nq
      have hg1 : w.grownBy w1 (some b) := by rw [hw1]; exact zo HGR.out nq
      clear c0 c1 f1; have c0 := hs1.c0; have c1 := hs1.c1; have f1 := hs1.f1; have HS1 := ze hs1; have HG1 := ze hg1; clear hw1 hs1 hg1 HSR HGR; go_wp2_with fail
      go_quiet ((go_at_call 124; exact Calls.quiet_of_same (jr _ _)))
      simp only [hb]
      go_wp2_with (first | (go_at_call 126; refine (yJ b s k _ hsm hk (by simpa using c0) (by simpa using c1)).mono ?_; rintro e w' ⟨rfl,nr,rfl⟩) | (go_at_call 125; refine (jA _ _ _ _ hxs).mono ?_; rintro e w' ⟨rfl,rfl⟩; simp only [yt,h1]) | (go_at_call 127; refine (kY b s k _ hs hk (HS1.out.drewN _) H1.out).mono ?_; rintro e w' ⟨hA,hB⟩; obtain ⟨⟨q,rfl,hq,q0,q1,q2⟩,hG2⟩ := hB HM.out))
      refine ⟨rfl,fun r' hr => ?_,fun f hf => ?_⟩
      ·rw [HN.out] at hr; cases hr
      ·rw [HN.out] at hf
       cases hf; refine ⟨⟨q,rfl,Nat.le_trans (zo HG1.out _).size hq,q0,?_,q2⟩,za (zo HG1.out _) hG2⟩; rw [List.length_drop,<- zB,show s.size - (s.size - k) = k from by omega]
       exact q1
     | some r1 =>
      have HN : Hid (skp r1 = skp (s.data.toList.drop k0)) := by
       rw [<- HC.out]; rw [hdr] at h1 hcm ⊢; exact (oH hb h1 hcm).symm
      obtain ⟨p,hp,_⟩ := vL hcm; have hd2 := uU hp (by rw [<- zB]; exact hk); rw [<- zB] at hd2
      have hl1 : s.size - k = p.length + r1.length := by rw [zB,<- List.length_drop,hp,List.length_append]
      have HM := ze hcm; have H1 := ze h1; have HD2 := ze hd2; clear hdr HC hcm hp hd2; go_wp2_with fail
      go_quiet (fail)
      obtain ⟨w1,hw1⟩ : ∃ w1,w1 = wr.drewN nq := ⟨_,rfl⟩; rw [<- hw1]
      have hs1 : Sc w1 b s k := by rw [hw1]; exact HSR.out.drewN nq
      have hg1 : w.grownBy w1 (some b) := by rw [hw1]; exact zo HGR.out nq
      clear c0 c1 f1; have c0 := hs1.c0; have c1 := hs1.c1; have f1 := hs1.f1; have HS1 := ze hs1; have HG1 := ze hg1; clear hw1 hs1 hg1 HSR HGR; go_wp2_with fail
      go_quiet ((go_at_call 124; exact Calls.quiet_of_same (jr _ _)))
      simp only [hb]
      go_wp2_with (first | (go_at_call 126; refine (yJ b s k _ hsm hk (by simpa using c0) (by simpa using c1)).mono ?_; rintro e w' ⟨rfl,nr,rfl⟩) | (go_at_call 125; refine (jA _ _ _ _ hxs).mono ?_; rintro e w' ⟨rfl,rfl⟩; simp only [yt,h1]) | (go_at_call 127; refine (kY b s k _ hs hk (HS1.out.drewN _) H1.out).mono ?_; rintro e w' ⟨hA,hB⟩; obtain ⟨rfl,hS2,hG2⟩ := hA _ HM.out))
      exact ⟨⟨s.size - r1.length,by omega,hS2,za (zo HG1.out _) hG2,by rw [HD2.out]; exact HN⟩,by rw [hS2.atOf,hea]; omega⟩
   ·have HN : Hid (skp (s.data.toList.drop (k + 1)) = skp (s.data.toList.drop k0)) := by
     rw [<- HC.out,hdr]; exact (pm hb).symm
    clear hdr HC; go_wp2_with fail
    go_quiet (fail)
    obtain ⟨w1,hw1⟩ : ∃ w1,w1 = wr.drewN nq := ⟨_,rfl⟩; rw [<- hw1]
    have hs1 : Sc w1 b s k := by rw [hw1]; exact HSR.out.drewN nq
    have hg1 : w.grownBy w1 (some b) := by rw [hw1]; exact zo HGR.out nq
    clear c0 c1 f1; have c0 := hs1.c0; have c1 := hs1.c1; have f1 := hs1.f1; have HS1 := ze hs1; have HG1 := ze hg1; clear hw1 hs1 hg1 HSR HGR; go_wp2_with fail
    go_quiet ((go_at_call 124; exact Calls.quiet_of_same (jr _ _)))
    simp only [hb]; go_wp2
    have hS := fun n => (HS1.out.drewN n).setI ((k : Int) + 1) (k + 1) (by omega)
    exact ⟨⟨k + 1,by omega,hS _,zR (zo HG1.out _) _ _,HN⟩,by rw [(hS _).atOf,hea]; omega⟩
  ·have HN : Hid (skp (s.data.toList.drop k0) = .ok []) := by
    rw [<- HC.out,List.drop_eq_nil_of_le (by rw [<- zB]; omega)]; rfl
   clear HC; go_wp2_with fail
   go_quiet (fail)
   go_wp2
   first | go_end0 | refine bodyPost_end (results_none rfl _ _ _) rfl ?_
   refine ⟨fun r' hr => ?_,fun f hf => ?_⟩
   ·rw [HN.out] at hr
    cases hr; refine ⟨rfl,?_,zo HGR.out _⟩
    have : s.size - ([] : List UInt8).length = k := by simp; omega
    rw [this]
    exact HSR.out.drewN _
   ·rw [HN.out] at hf; cases hf
theorem gf (s : ByteArray) (k : Nat) (h : k < s.size) : (s.data.toList.drop k).headD 0 = s[k] := by rw [jR s k h]; rfl
theorem jI {p : Int -> Bool} {l : List UInt8} {c : UInt8} (h : c ∈ zY p l) : p c.toNat = true := by
 induction l with
 | nil => simp [zY] at h
 | cons a l ih =>
  unfold zY at h ih
  rw [List.takeWhile_cons] at h; cases hp : p a.toNat
  ·simp [hp] at h
  ·simp only [hp,if_true,List.mem_cons] at h
   rcases h with rfl | h
   ·exact hp
   ·exact ih h
theorem du (x : ByteArray) (j : Nat) (h : j < x.size) : x[j] ∈ x.data.toList := by
 have : x[j] = x.data.toList[j]'(by rw [<- zB]; exact h) := rfl
 rw [this]; exact List.getElem_mem _
theorem pD {p : Int -> Bool} {l : List UInt8} {c : UInt8} (h : p c.toNat = true) : (zY p (c :: l)).isEmpty = false := by
 unfold zY; simp [h]
theorem qY (p : Int -> Bool) (l : List UInt8) : (zY p l).length <= l.length := by
 unfold zY
 induction l with
 | nil => simp
 | cons a l ih => rw [List.takeWhile_cons]; split <;> simp <;> omega
theorem jM {w wr : World} {k n : Int} (h : w.heap.size <= wr.heap.size) :
  Threw w k n (.panicked [{ v := .iface 103 (.pointer (some ⟨wr.heap.size,0,none⟩)),recovered := false }]) (wr.alloc (.cells #[.int .i64 0,.int .i64 k,.iface 56 (.int .i64 n)] 113)) :=
 ⟨wr.heap.size,rfl,h,by rw [World.cell?_alloc_at _ _ _ _ (by simp)]; rfl,by rw [World.cell?_alloc_at _ _ _ _ (by simp)]; rfl,by rw [World.cell?_alloc_at _ _ _ _ (by simp)]; rfl⟩
theorem tw (c : UInt8) : wrap32 (c.toNat : Int) = c.toNat := by
 have := c.toNat_lt; simp only [wrap32]
 omega
theorem ns (s : ByteArray) (k : Nat) (h : k < s.size) (h0 : 0 < (s.extract k s.size).size) : (s.extract k s.size)[0] = s[k] := by
 have h1 := (jl (s.extract k s.size) h0).1; rw [yt,gf s k h] at h1
 exact h1.symm
theorem gq (b : Nat) (s : ByteArray) (k : Nat) (w : World) (hs : s.size <= 1000000000) (hk : k < s.size) (hsc : Sc w b s k) :
  Calls Tryz.prog 84 #[.pointer (some ⟨b,0,none⟩)] w fun e w' =>
   (∀ x,xm (s.data.toList.drop k) = .ok x -> ∃ y : ByteArray,e = .returned (.string y) /\ y.data.toList = x /\ w.grownBy w' none) /\
   (∀ n,xm (s.data.toList.drop k) = .error n -> Threw w k n e w' /\ w.grownBy w' none) := by
 have c0 := hsc.c0; have c1 := hsc.c1
 have hsm : s.size <= maxLen := by unfold maxLen; omega
 have hk' : k <= s.size := by omega
 have hxs : (s.extract k s.size).size = s.size - k := by rw [zB,yt,List.length_drop,<- zB]
 have hx0 : 0 < (s.extract k s.size).size := by omega
 have hxm : (s.extract k s.size).size <= maxLen := by unfold maxLen; omega
 have hget := ns s k hk hx0; have hw : xm (s.data.toList.drop k) = if zE (s[k]'hk).toNat then (if 12 < (zY lod (s.data.toList.drop k)).length then .error 3 else .ok (zY lod (s.data.toList.drop k)))
   else if zA (s[k]'hk).toNat then (match zX 0 (zY zA (s.data.toList.drop k)) with | none => .error 3 | some _ => .ok (zY zA (s.data.toList.drop k)))
   else if ye (s.data.toList.drop k) = [] then .error 1 else .ok (ye (s.data.toList.drop k)) := by
  unfold xm; rw [gf s k hk]; try rfl
 have hw32 := tw (s[k]'hk); have HSC := ze hsc; clear hsc; cases hl : zE (s[k]'hk).toNat
 ·rw [hl,if_neg (by simp)] at hw
  cases hd : zA (s[k]'hk).toNat
  ·rw [hd,if_neg (by simp)] at hw
   cases hsg : (ye (s.data.toList.drop k)).isEmpty
   ·have hne : ye (s.data.toList.drop k) ≠ [] := by intro e; rw [e] at hsg; cases hsg
    rw [if_neg hne] at hw; have HW := ze hw; have HG := ze hsg; clear hw hxs hsg hne
    go_enter Tryz.func84,Tryz.ntmps84
    go_wp2_with (first | (go_at_call 126; refine (yJ b s k _ hsm hk' c0 c1).mono ?_; rintro e w1 ⟨rfl,nr,rfl⟩) | (go_at_call 128; refine (yh _ _).mono ?_; rintro e w' ⟨rfl,rfl⟩; simp only [hl]) | (go_at_call 132; refine (yo _ _).mono ?_; rintro e w' ⟨rfl,rfl⟩; simp only [hd]))
    refine (tF _ _ hxm hx0).mono ?_; rintro e w2 ⟨y,rfl,hy,rfl⟩
    have hemp : y.toList.isEmpty = false := by rw [xO,hy,yt]; exact HG.out
    have HY := ze hy; clear hy; go_wp2
    go_ret
    refine ⟨fun x hx => ?_,fun n hn => ?_⟩
    ·rw [HW.out] at hx
     cases hx
     exact ⟨y,rfl,by rw [HY.out,yt],zo (zc _ _) _⟩
    ·rw [HW.out] at hn; cases hn
   ·have hne : ye (s.data.toList.drop k) = [] := by simpa using hsg
    rw [if_pos hne] at hw; have HW := ze hw; have HG := ze hsg; clear hw hxs hsg hne
    go_enter Tryz.func84,Tryz.ntmps84
    go_wp2_with (first | (go_at_call 126; refine (yJ b s k _ hsm hk' c0 c1).mono ?_; rintro e w1 ⟨rfl,nr,rfl⟩) | (go_at_call 128; refine (yh _ _).mono ?_; rintro e w' ⟨rfl,rfl⟩; simp only [hl]) | (go_at_call 132; refine (yo _ _).mono ?_; rintro e w' ⟨rfl,rfl⟩; simp only [hd]))
    refine (tF _ _ hxm hx0).mono ?_; rintro e w2 ⟨y,rfl,hy,rfl⟩
    have hemp : y.toList.isEmpty = true := by rw [xO,hy,yt]; exact HG.out
    clear hy
    go_wp2_with (go_at_call 131; refine (jm _ _ _ _).mono ?_; rintro e w' ⟨rfl,rfl⟩)
    refine ⟨rfl,fun x hx => ?_,fun n hn => ?_⟩
    ·rw [HW.out] at hx; cases hx
    ·rw [HW.out] at hn
     cases hn
     exact ⟨kG (Nat.le_refl _),zf (zo (zc _ _) _) _⟩
  ·rw [hd,if_pos rfl] at hw
   have hne : (zY zA (s.data.toList.drop k)).isEmpty = false := by rw [jR s k hk]; exact pD hd
   cases hv : zX 0 (zY zA (s.data.toList.drop k)) with
   | none =>
    rw [hv] at hw; have HW := ze hw; have HV := ze hv; have HN := ze hne; clear hw hxs hv hne
    go_enter Tryz.func84,Tryz.ntmps84
    go_wp2_with (first | (go_at_call 126; refine (yJ b s k _ hsm hk' c0 c1).mono ?_; rintro e w1 ⟨rfl,nr,rfl⟩) | (go_at_call 128; refine (yh _ _).mono ?_; rintro e w' ⟨rfl,rfl⟩; simp only [hl]) | (go_at_call 132; refine (yo _ _).mono ?_; rintro e w' ⟨rfl,rfl⟩; simp only [hd]))
    refine (gT _ _ hxm).mono ?_; rintro e w2 ⟨x,rfl,hx,hg⟩; rw [yt] at hx; have hs2 := (HSC.out.drewN nr).kept hg (by simp); have HG := ze hg; have HX := ze hx; have HS2 := ze hs2; clear hx hg hs2 c0 c1; go_wp2_with fail; refine (kB x _ (by unfold maxLen; have := congrArg List.length HX.out; rw [<- zB] at this; have h2 := qY zA (s.data.toList.drop k); rw [List.length_drop,<- zB] at h2; omega) (by rw [HX.out]; exact HN.out) (fun j h => by have := du x j h; rw [HX.out] at this; exact jI this)).mono ?_; rintro e w3 ⟨he,hg3⟩; rw [HX.out,HV.out] at he; simp only [kj] at he; subst he; have d1 := (HS2.out.kept hg3 (by simp)).c1; have HG3 := ze hg3; clear hg3
    go_wp2_with (go_at_call 131; refine (jm _ _ _ _).mono ?_; rintro e w' ⟨rfl,rfl⟩)
    have hgg := za (za (zo (zc w none) nr) HG.out) HG3.out; refine ⟨rfl,fun x hx => ?_,fun n hn => ?_⟩
    ·rw [HW.out] at hx; cases hx
    ·rw [HW.out] at hn
     cases hn
     exact ⟨jM hgg.size,zf hgg _⟩
   | some v =>
    rw [hv] at hw; have HW := ze hw; have HV := ze hv; have HN := ze hne; clear hw hxs hv hne
    go_enter Tryz.func84,Tryz.ntmps84
    go_wp2_with (first | (go_at_call 126; refine (yJ b s k _ hsm hk' c0 c1).mono ?_; rintro e w1 ⟨rfl,nr,rfl⟩) | (go_at_call 128; refine (yh _ _).mono ?_; rintro e w' ⟨rfl,rfl⟩; simp only [hl]) | (go_at_call 132; refine (yo _ _).mono ?_; rintro e w' ⟨rfl,rfl⟩; simp only [hd]))
    refine (gT _ _ hxm).mono ?_; rintro e w2 ⟨x,rfl,hx,hg⟩; rw [yt] at hx; have HG := ze hg; have HX := ze hx; clear hx hg c0 c1; go_wp2_with fail; refine (kB x _ (by unfold maxLen; have := congrArg List.length HX.out; rw [<- zB] at this; have h2 := qY zA (s.data.toList.drop k); rw [List.length_drop,<- zB] at h2; omega) (by rw [HX.out]; exact HN.out) (fun j h => by have := du x j h; rw [HX.out] at this; exact jI this)).mono ?_; rintro e w3 ⟨he,hg3⟩; rw [HX.out,HV.out] at he; simp only [kj] at he; subst he; have HG3 := ze hg3; clear hg3; go_wp2
    go_ret
    have hgg := za (za (zo (zc w none) nr) HG.out) HG3.out; refine ⟨fun y hy => ?_,fun n hn => ?_⟩
    ·rw [HW.out] at hy
     cases hy
     exact ⟨x,rfl,HX.out,hgg⟩
    ·rw [HW.out] at hn; cases hn
 ·rw [hl,if_pos rfl] at hw
  obtain ⟨m,hm⟩ : ∃ m,m = (zY lod (s.data.toList.drop k)).length := ⟨_,rfl⟩; have HM := ze hm; rw [<- hm] at hw; clear hm
  by_cases hlen : 12 < m
  ·rw [if_pos hlen] at hw
   have HW := ze hw; clear hw hxs
   go_enter Tryz.func84,Tryz.ntmps84
   go_wp2_with (first | (go_at_call 126; refine (yJ b s k _ hsm hk' c0 c1).mono ?_; rintro e w1 ⟨rfl,nr,rfl⟩) | (go_at_call 128; refine (yh _ _).mono ?_; rintro e w' ⟨rfl,rfl⟩; simp only [hl]))
   refine (sj _ _ hxm).mono ?_; rintro e w2 ⟨x,rfl,hx,hg⟩; rw [yt] at hx
   have hxl : x.size = m := by rw [zB,hx]; exact HM.out.symm
   have d1 := ((HSC.out.drewN nr).kept hg (by simp)).c1; have HG := ze hg; clear hx hg c0 c1
   go_wp2_with (go_at_call 131; refine (jm _ _ _ _).mono ?_; rintro e w' ⟨rfl,rfl⟩)
   have hgg := za (zo (zc w none) nr) HG.out; refine ⟨rfl,fun x hx => ?_,fun n hn => ?_⟩
   ·rw [HW.out] at hx; cases hx
   ·rw [HW.out] at hn
    cases hn
    exact ⟨jM hgg.size,zf hgg _⟩
  ·rw [if_neg hlen] at hw
   have HW := ze hw; clear hw hxs
   go_enter Tryz.func84,Tryz.ntmps84
   go_wp2_with (first | (go_at_call 126; refine (yJ b s k _ hsm hk' c0 c1).mono ?_; rintro e w1 ⟨rfl,nr,rfl⟩) | (go_at_call 128; refine (yh _ _).mono ?_; rintro e w' ⟨rfl,rfl⟩; simp only [hl]))
   refine (sj _ _ hxm).mono ?_; rintro e w2 ⟨x,rfl,hx,hg⟩; rw [yt] at hx
   have hxl : x.size = m := by rw [zB,hx]; exact HM.out.symm
   have HG := ze hg; have HX := ze hx; clear hx hg c0 c1; go_wp2
   go_ret
   have hgg := za (zo (zc w none) nr) HG.out; refine ⟨fun y hy => ?_,fun n hn => ?_⟩
   ·rw [HW.out] at hy
    cases hy
    exact ⟨x,rfl,HX.out,hgg⟩
   ·rw [HW.out] at hn; cases hn
abbrev Toks := Except (Nat × List UInt8) (List (List UInt8 × List UInt8))
def pre (acc : List (List UInt8 × List UInt8)) : Toks -> Toks
 | .error x => .error x
 | .ok l => .ok (acc ++ l)
def fm (n : Nat) : List UInt8 -> Toks
 | [] => .ok [([],[])]
 | c :: r => match xm (c :: r) with
  | .error e => .error (e,c :: r)
  | .ok w => pre [(w,c :: r)] (uY n ((c :: r).drop w.length))
theorem vI (n : Nat) (r : List UInt8) : uY (n + 1) r = match skp r with | .error f => .error (2,f) | .ok r' => fm n r' := by
 rw [uY]; cases h : skp r with
 | error f => rfl
 | ok r' =>
  cases r' with
  | nil => rfl
  | cons c r' =>
   simp only [fm]; cases b : xm (c :: r') with
   | error e => rfl
   | ok w =>
    simp only
    cases uY n ((c :: r').drop w.length) <;> rfl
theorem nP (a b : List (List UInt8 × List UInt8)) (x : Toks) : pre a (pre b x) = pre (a ++ b) x := by
 cases x <;> simp [pre]
theorem nS (x : Toks) : pre [] x = x := by cases x <;> simp [pre]
theorem gp (p : Int -> Bool) (r : List UInt8) : r.take (zY p r).length = zY p r := by
 unfold zY
 induction r with
 | nil => rfl
 | cons a r ih =>
  rw [List.takeWhile_cons]
  split
  ·simp [ih]
  ·simp
theorem gs {p : Int -> Bool} {c : UInt8} {r : List UInt8} (h : p c.toNat = true) : 1 <= (zY p (c :: r)).length := by
 unfold zY
 rw [List.takeWhile_cons,if_pos h]; simp
theorem sW (r : List UInt8) : r.take (ye r).length = ye r := by
 unfold ye
 split
 ·match r with
  | [] => rfl
  | [a] => rfl
  | a :: b :: r => rfl
 ·split
  ·match r with
   | [] => rfl
   | a :: r => rfl
  ·rfl
theorem vv {c : UInt8} {r w : List UInt8} (h : xm (c :: r) = .ok w) : (c :: r).take w.length = w /\ 1 <= w.length := by
 unfold xm at h
 have i : (c :: r).headD 0 = c := rfl
 rw [i] at h
 by_cases d : zE c.toNat = true
 ·rw [if_pos d] at h
  by_cases b : 12 < (zY lod (c :: r)).length
  ·rw [if_pos b] at h; cases h
  ·rw [if_neg b] at h
   cases h
   exact ⟨gp _ _,gs (by simp [lod,d])⟩
 ·rw [if_neg d] at h
  by_cases e : zA c.toNat = true
  ·rw [if_pos e] at h
   cases g : zX 0 (zY zA (c :: r)) with
   | none => rw [g] at h; cases h
   | some v =>
    rw [g] at h; cases h
    exact ⟨gp _ _,gs e⟩
  ·rw [if_neg e] at h
   by_cases f : ye (c :: r) = []
   ·rw [if_pos f] at h; cases h
   ·rw [if_neg f] at h
    cases h; refine ⟨sW _,?_⟩; cases j : ye (c :: r) with
    | nil => exact absurd j f
    | cons a l => simp
theorem jL {c : UInt8} {r w : List UInt8} (h : xm (c :: r) = .ok w) : w.length <= (c :: r).length := by
 have b := (vv h).1; have := congrArg List.length b; rw [List.length_take] at this
 omega
def uJ (n : Nat) (l : List (List UInt8 × List UInt8)) : List Value := l.flatMap fun x => [.string ⟨x.1.toArray⟩,.int .i64 ((n - x.2.length : Nat) : Int)]
theorem gw (n : Nat) (l : List (List UInt8 × List UInt8)) (x : List UInt8 × List UInt8) : uJ n (l ++ [x]) = uJ n l ++ [.string ⟨x.1.toArray⟩,.int .i64 ((n - x.2.length : Nat) : Int)] := by
 simp [uJ]
theorem lp {y : ByteArray} {l : List UInt8} (h : y.data.toList = l) : y = ⟨l.toArray⟩ := by
 subst h; cases y; simp
theorem Tryz.infoTok : (Tryz.prog.info? 167).map (fun i => (i.zero,i.size,i.bytes)) = some (some (.agg #[.string ⟨#[]⟩,.int .i64 0]),2,24) := by kernel_rfl
theorem yX {a w w' : World} {b : Nat} {row : Option Nat} (h : a.grownBy w (some b)) (hg : w.grownBy w' row) (hr : ∀ j,row = some j -> a.heap.size <= j) : a.grownBy w' (some b) :=
 ⟨hg.os.trans h.os,hg.tape.trans h.tape,hg.output.trans h.output,Nat.le_trans h.size hg.size,fun i hi hne => (hg.block i (Nat.lt_of_lt_of_le hi h.size) (fun e => by have := hr i e.symm; omega)).trans (h.block i hi hne)⟩
theorem jH {w : World} {base : Nat} {e : TypeId} {size : Nat} {v : Value} {n : Nat} {xs : List Value} (h : w.ownsRow base e size v n xs) (m : Nat) : (w.drewN m).ownsRow base e size v n xs := h
theorem nv {w : World} {base : Nat} {e : TypeId} {v : Value} {acc : List (List UInt8 × List UInt8)} {x r : List UInt8} {n k : Nat} {y : ByteArray}
  (h : w.ownsRow base e 2 v (acc.length + 1) (uJ n acc ++ [.string y,.int .i64 (k : Int)])) (hy : y.data.toList = x) (hk : n - r.length = k) :
  w.ownsRow base e 2 v (acc ++ [(x,r)]).length (uJ n (acc ++ [(x,r)])) := by
 rw [gw,List.length_append]; simp only; rw [hk,<- lp hy]
 exact h
structure TI (w : World) (b : Nat) (s : ByteArray) (v : Value) (wr : World) (r : List UInt8) (acc : List (List UInt8 × List UInt8)) (n : Nat) : Prop where
 len : r.length <= s.size
 drop : s.data.toList.drop (s.size - r.length) = r
 sc : Sc wr b s (s.size - r.length)
 own : wr.ownsRow w.heap.size 167 2 v acc.length (uJ s.size acc)
 gb : w.grownBy wr (some b)
 same : pre acc (fm n r) = vD s.data.toList
 fuel : r.length <= n
 count : acc.length + r.length <= s.size
theorem sB {s : ByteArray} {k : Nat} {r : List UInt8} (h : skp (s.data.toList.drop k) = .ok r) (hk : k <= s.size) : r.length <= s.size - k /\ s.data.toList.drop (s.size - r.length) = r := by
 obtain ⟨_,b⟩ := uu h; refine ⟨?_,?_⟩
 ·have := nN h
  rw [List.length_drop,<- zB] at this; exact this
 ·have := uU b (by rw [<- zB]; exact hk)
  rw [<- zB] at this; exact this
theorem ru (b : Nat) (s : ByteArray) (w : World) (hs : s.size <= 1000000000) (hsc : Sc w b s 0) :
  Calls Tryz.prog 65 #[.pointer (some ⟨b,0,none⟩)] w fun e w' =>
   (∀ l,vD s.data.toList = .ok l -> ∃ v,e = .returned v /\ w'.ownsRow w.heap.size 167 2 v l.length (uJ s.size l) /\ w.grownBy w' (some b)) /\
   (∀ n f,vD s.data.toList = .error (n,f) -> Threw w ((s.size - f.length : Nat) : Int) n e w' /\ w.grownBy w' (some b)) := by
 obtain ⟨i0,hi,a0,a1,a2⟩ := info_parts Tryz.infoTok; have d6 := hsc.lt; have a3 := ze hsc; clear hsc; have H : vD s.data.toList = match skp s.data.toList with | .error f => .error (2,f) | .ok r' => fm s.data.toList.length r' := vI _ _; cases I : skp s.data.toList with
 | error f0 =>
  rw [I] at H; have HT := ze H; have HK := ze I; clear H I
  go_enter Tryz.func65,Tryz.ntmps65
  go_wp2_with fail; refine (jS b s 0 _ hs (Nat.zero_le _) a3.out).mono ?_; rintro e w1 ⟨_,J⟩; obtain ⟨⟨q,rfl,hq,q0,q1,q2⟩,hG⟩ := J f0 (by rw [List.drop_zero]; exact HK.out); refine ⟨rfl,fun l hl => ?_,fun n f hf => ?_⟩
  ·rw [HT.out] at hl; cases hl
  ·rw [HT.out] at hf
   cases hf
   exact ⟨⟨q,rfl,hq,q0,q1,q2⟩,hG⟩
 | ok r0 =>
  rw [I] at H; have HT := ze H; have HK := ze I; clear H I
  go_enter Tryz.func65,Tryz.ntmps65
  go_wp2_with fail; refine (jS b s 0 _ hs (Nat.zero_le _) a3.out).mono ?_; rintro e w1 ⟨K,J⟩; clear J; obtain ⟨rfl,i,o⟩ := K r0 (by rw [List.drop_zero]; exact HK.out); obtain ⟨b4,N⟩ := sB (s := s) (k := 0) (r := r0) (by rw [List.drop_zero]; exact HK.out) (Nat.zero_le _); have b5 : TI w b s (.slice none 0 0) w1 r0 [] s.data.toList.length := ⟨by omega,N,i,World.ownsRow_nil _ _ _ _,o,by rw [nS]; exact HT.out.symm,by rw [<- zB]; omega,by simp; omega⟩; clear i o b4 N a3 K; go_wp2_with fail
  go_loopw [3] (fun v wr => ∃ r O n,Hid (TI w b s v wr r O n)) (fun _ wr => s.size - atOf wr b)
  case atStart => exact ⟨r0,[],_,b5⟩
  case round =>
   obtain ⟨r,O,n,HI⟩ := hrel; clear b5; cases r with
   | nil =>
    have A := HI.out; have c0 := A.sc.c0; have c1 := A.sc.c1; simp only [List.length_nil,Nat.sub_zero] at c1; have B := A.own; have E := A.gb; have Q := A.count; simp only [List.length_nil,Nat.add_zero] at Q
    have X : Hid (vD s.data.toList = .ok (O ++ [([],[])])) := by rw [<- A.same]; rfl
    have c6 := E.size; clear A HI HT HK; have L := ze E; clear E; go_wp2_with fail
    go_quiet (fail)
    go_wp2_with (first | (at_builtin; refine wpList_append_own _ rfl _ _ 118 rfl w.heap.size 167 i0 (.agg #[.string ⟨#[]⟩,.int .i64 0]) 2 24 Tryz.underlying118 hi a0 a1 a2 rfl (by decide) _ _ _ rfl ((jH B nq).alloc _) ⟨wr.heap.size,0,none⟩ 1 1 [.string ⟨#[]⟩,.int .i64 (s.size : Int)] rfl rfl (cell_two_new _ _ _ _) (fun x C => by simp at C; rcases C with rfl | rfl <;> rfl) (by unfold maxLen; omega) (by omega) (by simp; omega) ?_; intro v' w3 d u G))
    go_ret
    refine ⟨fun l hl => ?_,fun m f hf => ?_⟩
    ·rw [X.out] at hl
     cases hl; refine ⟨v',rfl,?_,yX (zf (zo L.out nq) _) u (fun j hj => (B.lt j hj).1)⟩; rw [gw,List.length_append]
     exact d
    ·rw [X.out] at hf; cases hf
   | cons c r =>
    have A := HI.out; have b6 := A.len; have z := A.drop; have D := A.sc; have B := A.own; have E := A.gb; have Q := A.count; have c7 := A.fuel; have R := A.same; simp only [List.length_cons] at b6 z D Q c7; obtain ⟨k,hk⟩ : ∃ k,k = s.size - (r.length + 1) := ⟨_,rfl⟩; rw [<- hk] at z D
    have a4 : k < s.size := by omega
    have d7 : k + (r.length + 1) <= s.size := by omega
    have d8 : s.size <= k + (r.length + 1) := by omega
    obtain ⟨m,rfl⟩ : ∃ m,n = m + 1 := ⟨n - 1,by omega⟩; have c0 := D.c0; have c1 := D.c1; have f1 := D.f1; have c8 := D.atOf; have c6 := E.size; have HD := ze z; have U := ze D; have L := ze E; have a5 := ze R; have b7 := ze B; clear A HI HT HK z D E R B hk; cases C : xm (c :: r) with
    | error m1 =>
     have X : Hid (vD s.data.toList = .error (m1,c :: r)) := by
      rw [<- a5.out,fm,C]; rfl
     have HX := ze C; clear C; go_wp2_with fail
     go_quiet (fail)
     go_wp2_with fail; refine (gq b s k _ hs a4 (U.out.drewN nq)).mono ?_; rintro e w1 ⟨K,J⟩; obtain ⟨⟨q,rfl,hq,q0,q1,q2⟩,hG⟩ := J m1 (by rw [HD.out]; exact HX.out); refine ⟨rfl,fun l hl => ?_,fun n f hf => ?_⟩
     ·rw [X.out] at hl; cases hl
     ·rw [X.out] at hf
      cases hf; have M := za (zo L.out nq) (zv hG _); refine ⟨⟨q,rfl,Nat.le_trans (zo L.out nq).size hq,q0,?_,q2⟩,M⟩; rw [List.length_cons,show s.size - (r.length + 1) = k from by omega]
      exact q1
    | ok x =>
     obtain ⟨b8,_⟩ := vv C; have c9 := jL C; simp only [List.length_cons] at c9
     have b9 : s.data.toList.drop (k + x.length) = (c :: r).drop x.length := by rw [<- List.drop_drop,HD.out]
     have a6 := ze b9; have HX := ze C
     have Y : fm (m + 1) (c :: r) = pre [(x,c :: r)] (uY (m + 1) ((c :: r).drop x.length)) := by rw [fm,C]
     clear b8 b9 C; cases hz : skp ((c :: r).drop x.length) with
     | error f2 =>
      have X : Hid (vD s.data.toList = .error (2,f2)) := by
       rw [<- a5.out,Y,vI,hz]; rfl
      have HZ := ze hz; clear hz Y; go_wp2_with fail
      go_quiet (fail)
      go_wp2_with fail; refine (gq b s k _ hs a4 (U.out.drewN nq)).mono ?_; rintro e w1 ⟨K,J⟩; clear J; obtain ⟨y,rfl,hy,o⟩ := K x (by rw [HD.out]; exact HX.out)
      have V : y.size = x.length := by rw [zB,hy]
      have i := (U.out.drewN nq).kept o (by simp); have g := (jH b7.out nq).kept o (by cases h : Value.ownBlock _ <;> simp); have F := za (zo L.out nq) (zv o (some b)); have c2 := F.size; have d0 := i.c0; have d1 := i.c1; have e1 := i.f1; have HY := ze hy; have a7 := ze V; have a8 := ze i; have a9 := ze F
      have d2 : y.size <= s.size := by omega
      clear K hy V i F o c0 c1 f1
      go_wp2_with (first | (at_builtin; refine wpList_append_own _ rfl _ _ 118 rfl w.heap.size 167 i0 (.agg #[.string ⟨#[]⟩,.int .i64 0]) 2 24 Tryz.underlying118 hi a0 a1 a2 rfl (by decide) _ _ _ rfl (g.alloc _) ⟨w1.heap.size,0,none⟩ 1 1 [.string y,.int .i64 (k : Int)] rfl rfl (cell_two_new _ _ _ _) (fun x C => by simp at C; rcases C with rfl | rfl <;> rfl) (by unfold maxLen; omega) (by omega) (by simp; omega) ?_; intro v' w3 d u G; have t := (a8.out.kept (World.grownBy_alloc _ _ none) (by simp)).kept u (fun e => by have := (g.lt b e).1; omega); have k0 := t.c0; have k1 := t.c1; have k2 := t.f1; have Z := ze (yX (zf a9.out _) u (fun j hj => (g.lt j hj).1)); have b0 := ze t; have b1 := ze d; clear t d u G))
      refine (jS b s (k + x.length) _ hs (by omega) (b0.out.setI ((k : Int) + (y.size : Int)) (k + x.length) (by have := a7.out; omega))).mono ?_; rintro e w5 ⟨K,J⟩; obtain ⟨⟨q,rfl,hq,q0,q1,q2⟩,hG⟩ := J f2 (by rw [a6.out]; exact HZ.out); have M := za (zR Z.out 1 (.int .i64 ((k : Int) + (y.size : Int)))) hG; refine ⟨rfl,fun l hl => ?_,fun n f hf => ?_⟩
      ·rw [X.out] at hl; cases hl
      ·rw [X.out] at hf
       cases hf
       exact ⟨⟨q,rfl,Nat.le_trans (zR Z.out 1 (.int .i64 ((k : Int) + (y.size : Int)))).size hq,q0,q1,q2⟩,M⟩
     | ok r2 =>
      obtain ⟨b4,N⟩ := sB (s := s) (k := k + x.length) (r := r2) (by rw [a6.out]; exact hz) (by omega)
      have X : Hid (pre (O ++ [(x,c :: r)]) (fm m r2) = vD s.data.toList) := by
       rw [<- a5.out,Y,vI,hz,nP]; rfl
      have HZ := ze hz; have d3 := ze N; clear hz Y N; go_wp2_with fail
      go_quiet (fail)
      go_wp2_with fail; refine (gq b s k _ hs a4 (U.out.drewN nq)).mono ?_; rintro e w1 ⟨K,J⟩; clear J; obtain ⟨y,rfl,hy,o⟩ := K x (by rw [HD.out]; exact HX.out)
      have V : y.size = x.length := by rw [zB,hy]
      have i := (U.out.drewN nq).kept o (by simp); have g := (jH b7.out nq).kept o (by cases h : Value.ownBlock _ <;> simp); have F := za (zo L.out nq) (zv o (some b)); have c2 := F.size; have d0 := i.c0; have d1 := i.c1; have e1 := i.f1; have HY := ze hy; have a7 := ze V; have a8 := ze i; have a9 := ze F
      have d2 : y.size <= s.size := by omega
      clear K hy V i F o c0 c1 f1
      go_wp2_with (first | (at_builtin; refine wpList_append_own _ rfl _ _ 118 rfl w.heap.size 167 i0 (.agg #[.string ⟨#[]⟩,.int .i64 0]) 2 24 Tryz.underlying118 hi a0 a1 a2 rfl (by decide) _ _ _ rfl (g.alloc _) ⟨w1.heap.size,0,none⟩ 1 1 [.string y,.int .i64 (k : Int)] rfl rfl (cell_two_new _ _ _ _) (fun x C => by simp at C; rcases C with rfl | rfl <;> rfl) (by unfold maxLen; omega) (by omega) (by simp; omega) ?_; intro v' w3 d u G; have t := (a8.out.kept (World.grownBy_alloc _ _ none) (by simp)).kept u (fun e => by have := (g.lt b e).1; omega); have k0 := t.c0; have k1 := t.c1; have k2 := t.f1; have Z := ze (yX (zf a9.out _) u (fun j hj => (g.lt j hj).1)); have b0 := ze t; have b1 := ze d; clear t d u G))
      refine (jS b s (k + x.length) _ hs (by omega) (b0.out.setI ((k : Int) + (y.size : Int)) (k + x.length) (by have := a7.out; omega))).mono ?_; rintro e w5 ⟨K,J⟩; clear J; obtain ⟨rfl,c3,b2⟩ := K r2 (by rw [a6.out]; exact HZ.out); have M := za (zR Z.out 1 (.int .i64 ((k : Int) + (y.size : Int)))) b2; have b3 : v'.ownBlock = none \/ v'.ownBlock ≠ some b := .inr (fun e => by have := (b1.out.lt b e).1; omega); have c4 := (b1.out.kept (zR (zc w3 (some b)) 1 (.int .i64 ((k : Int) + (y.size : Int)))) b3).kept b2 b3; have d4 := ze M; have d5 := ze c4; have c5 := ze c3; clear K M c4 c3 b2 b3 k0 k1 k2 d0 d1 e1; go_wp2; refine ⟨⟨r2,O ++ [(x,c :: r)],m,⟨by omega,d3.out,c5.out,?_,d4.out,X.out,by omega,by simp; omega⟩⟩,by rw [c5.out.atOf,c8]; omega⟩
      exact nv d5.out HY.out (by rw [List.length_cons]; omega)
set_option maxHeartbeats 1000000
theorem kW (v : Value) (x : TypeId) (w : World) : (Instr.typeAssert (.iface 103 v) x 103 true).run Tryz.prog w = .ok (.tuple #[v,.bool true]) w := by kernel_rfl
theorem kN (x : TypeId) (w : World) : (Instr.typeAssert .nilIface x 103 true).run Tryz.prog w = .ok (.tuple #[.pointer none,.bool false]) w := by kernel_rfl
theorem qn (p0 p1 q : Addr) (v0 v1 : Value) (older : List PanicEntry) (w : World) (hne : p0 ≠ p1) (h0 : w.cell? p0 = some v0) (h1 : w.cell? p1 = some v1) (z0 : w.frozen? p0 = false) (z1 : w.frozen? p1 = false) :
  CallsD Tryz.prog 64 #[.pointer (some p0),.pointer (some p1)] (.panicking ({ v := .iface 103 (.pointer (some q)),recovered := false } :: older)) w fun e u' w' =>
   e = .returned (.tuple #[]) /\ u' = .panicking ({ v := .iface 103 (.pointer (some q)),recovered := true } :: older) /\ w' = (w.setCell p0 (.slice none 0 0)).setCell p1 (.iface 103 (.pointer (some q))) := by
 refine callsD_of_wpS Tryz.func64 rfl fun c₀ cs hu => ?_
 have b := kW (.pointer (some q))
 have c : (w.setCell p0 (.slice none 0 0)).cell? p1 = some v1 := by rw [World.cell?_setCell_other _ _ _ _ hne]; exact h1
 apply wpS_seq
 apply wpS_region
 simp [wpOpsS,go_sem,recoverD,hu,Tryz.ntmps64,Exit.thenS,b]
 apply wpS_seq
 apply wpS_region
 simp [wpOpsS,go_sem,Array.replicate,Exit.thenS]
 refine wpS_cond (t := true) (by simp [Act.eval]) ?_; simp only [if_true]
 apply wpS_region
 simp [wpOpsS,go_sem,h0,z0,c,z1,bodyPostS,results,Tryz.results64]
theorem rx (p0 p1 : Addr) (w : World) :
  CallsD Tryz.prog 64 #[.pointer (some p0),.pointer (some p1)] .returning w fun e u' w' => e = .returned (.tuple #[]) /\ u' = .returning /\ w' = w := by
 refine callsD_of_wpS Tryz.func64 rfl fun c₀ cs hu => ?_
 have b := kN
 apply wpS_seq
 apply wpS_region
 simp [wpOpsS,go_sem,recoverD,hu,Tryz.ntmps64,Exit.thenS,b]
 apply wpS_seq
 apply wpS_region
 simp [wpOpsS,go_sem,Array.replicate,Exit.thenS]
 refine wpS_cond (t := false) (by simp [Act.eval]) ?_; simp only [Bool.false_eq_true,if_false]; refine wpS_of_wp (wp_skip ?_); cases c₀
 simp_all [bodyPostS,results,Tryz.results64]
def TokensPost (t : List UInt8) (w : World) (e : Ending) (w' : World) : Prop :=
 (4000 < t.length -> e = .returned (.tuple #[.slice none 0 0,.iface 56 (.int .i64 3)])) /\
 (t.length <= 4000 -> ∀ l,vD t = .ok l -> ∃ v,e = .returned (.tuple #[v,.nilIface]) /\ w'.ownsRow w.heap.size 167 2 v l.length (uJ t.length l)) /\
 (t.length <= 4000 -> ∀ n f,vD t = .error (n,f) -> ∃ q,e = .returned (.tuple #[.slice none 0 0,.iface 103 (.pointer (some ⟨q,0,none⟩))]) /\
  w'.cell? ⟨q,0,none⟩ = some (.int .i64 0) /\ w'.cell? ⟨q,1,none⟩ = some (.int .i64 ((t.length - f.length : Nat) : Int)) /\ w'.cell? ⟨q,2,none⟩ = some (.iface 56 (.int .i64 n))) /\
 Below w.heap.size w w'
theorem tM (s : ByteArray) (w : World) (hs : s.size <= maxLen) (hl : 4000 < s.size) :
  Calls Tryz.prog 49 #[.string s] w fun e w' => TokensPost s.data.toList w e w' := by
 unfold maxLen at hs
 go_enter_defers Tryz.func49,Tryz.ntmps49
 go_wp2; simp only [bodyPostD,Leaves]; refine ⟨.tuple #[.slice none 0 0,.iface 56 (.int .i64 3)],by simp [results,Tryz.results49,go_sem],fun _ => rfl,fun h => ?_,fun h => ?_,((Below.refl _ _).alloc (Nat.le_refl _) _).alloc (by simp) _⟩
 ·rw [<- zB] at h; omega
 ·rw [<- zB] at h; omega
theorem ol {w : World} {base base' : Nat} {e : TypeId} {size : Nat} {v : Value} {n : Nat} {xs : List Value} (h : w.ownsRow base e size v n xs) (hb : base' <= base) : w.ownsRow base' e size v n xs := by
 obtain ⟨j,d⟩ := h; refine ⟨j,?_⟩
 rcases d with d | ⟨g,f,i,a,b,c⟩
 ·exact .inl d
 ·exact .inr ⟨g,f,i,a,Nat.le_trans hb b,c⟩
theorem zC {w w' : World} {row : Option Nat} (hg : w.grownBy w' row) {a : Addr} {v : Value} (h : w.cell? a = some v) (hne : some a.block ≠ row) : w'.cell? a = some v := by
 have b : a.block < w.heap.size := by
  rcases Nat.lt_or_ge a.block w.heap.size with c | c
  ·exact c
  ·simp [World.cell?,Array.getElem?_eq_none c] at h
 rw [World.cell?_of_block (w := w) (hg.block _ b hne)]; exact h
theorem zV {w w' : World} {row : Option Nat} (hg : w.grownBy w' row) {a : Addr} {x : Bool} (hlt : a.block < w.heap.size) (h : w.frozen? a = x) (hne : some a.block ≠ row) : w'.frozen? a = x := by
 rw [World.frozen?_of_block (w := w) (hg.block _ hlt hne)]; exact h
theorem di (s : ByteArray) (w : World) (hl : s.size <= 4000) :
  Calls Tryz.prog 49 #[.string s] w fun e w' => TokensPost s.data.toList w e w' := by
 have a3 : ∀ (fn : Fn) (first C : Array Value) (w : World),(Instr.makeFunc fn first C).run Tryz.prog w = .ok (.func fn first C) w := fun _ _ _ _ => rfl
 obtain ⟨W,m⟩ : ∃ W,W = ((w.alloc (.cells #[.slice none 0 0] 118)).alloc (.cells #[.nilIface] 27)).alloc (.cells #[.string s,.int .i64 0] 138) := ⟨_,rfl⟩
 have M : W.heap.size = w.heap.size + 3 := by rw [m]; simp
 have N : Sc W (w.heap.size + 1 + 1) s 0 := by
  rw [m]
  exact ⟨by rw [World.cell?_alloc_at _ _ _ _ (by simp)]; rfl,by rw [World.cell?_alloc_at _ _ _ _ (by simp)]; rfl,World.frozen?_alloc_at _ _ _ _ (by simp)⟩
 have a0 : W.cell? ⟨w.heap.size,0,none⟩ = some (.slice none 0 0) := by
  rw [m,World.cell?_alloc_lt _ _ _ (by simp; omega),World.cell?_alloc_lt _ _ _ (by simp)]; simp
 have a1 : W.cell? ⟨w.heap.size + 1,0,none⟩ = some .nilIface := by
  rw [m,World.cell?_alloc_lt _ _ _ (by simp)]; simp
 have b0 : W.frozen? ⟨w.heap.size,0,none⟩ = false := by
  rw [m,World.frozen?_alloc_old _ _ _ (by simp; omega),World.frozen?_alloc_old _ _ _ (by simp)]; simp
 have b1 : W.frozen? ⟨w.heap.size + 1,0,none⟩ = false := by
  rw [m,World.frozen?_alloc_old _ _ _ (by simp)]; simp
 have O : Below w.heap.size w W := by
  rw [m]; exact (((Below.refl _ _).alloc (Nat.le_refl _) _).alloc (by simp) _).alloc (by simp; omega) _
 have HW := ze m; have Q := ze N; have D := ze a0; have E := ze a1; have F := ze b0; have G := ze b1; have H := ze O; have I := ze M; clear m N a0 a1 b0 b1 O M
 go_enter_defers Tryz.func49,Tryz.ntmps49
 go_wp2_with fail; rw [<- HW.out]; refine (ru _ s W (by omega) Q.out).mono ?_; rintro e r ⟨X,hB⟩; cases L : vD s.data.toList with
 | ok l =>
  clear hB; obtain ⟨v,hv,b,d⟩ := X l L
  obtain ⟨u,z,A,rfl⟩ : ∃ a n c,v = .slice a n c := by
   rcases b.2 with ⟨h,_⟩ | ⟨g,C,a4,h,_⟩
   ·exact ⟨_,_,_,h⟩
   ·exact ⟨_,_,_,h⟩
  subst hv; have R := I.out; have U := zC d D.out (by simp; omega); have V := zC d E.out (by simp); have z0 := zV d (by simp; omega) F.out (by simp; omega); have z1 := zV d (by simp; omega) G.out (by simp); have t : Below w.heap.size w r := H.out.grown d (by omega) (fun k hk => by cases hk; omega)
  have J : ∀ j,j < w.heap.size + 3 -> (Value.slice u z A).ownBlock = none \/ (Value.slice u z A).ownBlock ≠ some j := fun j hj => .inr (fun e => by have := (b.lt j e).1; omega)
  have ho := ((b.kept (zR (zc r (some w.heap.size)) 0 (.slice u z A)) (J _ (by omega))).kept (zR (zc _ (some (w.heap.size + 1))) 0 .nilIface) (J _ (by omega))); have HO := ze (ol ho (show w.heap.size <= W.heap.size from by omega)); have HT := ze L; have Y := ze t; clear X b d L t J ho R HW Q D E F G H I; go_wp2; refine leaves_cons (f := 64) (args := #[.pointer (some ⟨w.heap.size,0,none⟩),.pointer (some ⟨w.heap.size + 1,0,none⟩)]) (by simp) (by simp [go_sem]) ?_; refine (rx _ _ _).mono ?_; rintro e u' B ⟨rfl,rfl,rfl⟩; simp only [Leaves,settle]; refine ⟨.tuple #[.slice u z A,.nilIface],?_,?_⟩
  ·have Z : ((r.setCell ⟨w.heap.size,0,none⟩ (.slice u z A)).setCell ⟨w.heap.size + 1,0,none⟩ .nilIface).cell? ⟨w.heap.size,0,none⟩ = some (.slice u z A) := by
    rw [World.cell?_setCell_other _ _ _ _ (by simp)]; exact World.cell?_setCell_same _ _ _ U
   have g1 : ((r.setCell ⟨w.heap.size,0,none⟩ (.slice u z A)).setCell ⟨w.heap.size + 1,0,none⟩ .nilIface).cell? ⟨w.heap.size + 1,0,none⟩ = some .nilIface :=
    World.cell?_setCell_same _ _ _ (show (r.setCell ⟨w.heap.size,0,none⟩ (.slice u z A)).cell? ⟨w.heap.size + 1,0,none⟩ = some .nilIface by rw [World.cell?_setCell_other _ _ _ _ (by simp)]; exact V)
   simp [results,Tryz.results49,go_sem,Z,g1]
  ·refine ⟨fun h => ?_,fun _ l' hl' => ?_,fun _ n f hf => ?_,(Y.out.setCell (by simp) _).setCell (by simp) _⟩
   ·rw [<- zB] at h; omega
   ·rw [HT.out] at hl'
    cases hl'
    exact ⟨_,rfl,by rw [<- zB]; exact HO.out⟩
   ·rw [HT.out] at hf; cases hf
 | error x =>
  clear X; obtain ⟨n,f⟩ := x; obtain ⟨⟨q,rfl,_,q0,q1,q2⟩,d⟩ := hB n f L; have R := I.out; have U := zC d D.out (by simp; omega); have V := zC d E.out (by simp); have z0 := zV d (by simp; omega) F.out (by simp; omega); have z1 := zV d (by simp; omega) G.out (by simp); have t : Below w.heap.size w r := H.out.grown d (by omega) (fun k hk => by cases hk; omega)
  show Leaves _ _ _ _ _ _ _
  refine leaves_cons (f := 64) (args := #[.pointer (some ⟨w.heap.size,0,none⟩),.pointer (some ⟨w.heap.size + 1,0,none⟩)]) (by simp) (by simp [go_sem]) ?_; refine (qn ⟨w.heap.size,0,none⟩ ⟨w.heap.size + 1,0,none⟩ ⟨q,0,none⟩ _ _ [] _ (by simp) U V z0 z1).mono ?_; rintro e u' B ⟨rfl,rfl,rfl⟩
  show ∃ v,_ /\ _
  obtain ⟨B,i⟩ : ∃ B,B = (r.setCell ⟨w.heap.size,0,none⟩ (.slice none 0 0)).setCell ⟨w.heap.size + 1,0,none⟩ (.iface 103 (.pointer (some ⟨q,0,none⟩))) := ⟨_,rfl⟩
  have Z : B.cell? ⟨w.heap.size,0,none⟩ = some (.slice none 0 0) := by
   rw [i,World.cell?_setCell_other _ _ _ _ (by simp)]; exact World.cell?_setCell_same _ _ _ U
  have g1 : B.cell? ⟨w.heap.size + 1,0,none⟩ = some (.iface 103 (.pointer (some ⟨q,0,none⟩))) := by
   rw [i]
   exact World.cell?_setCell_same _ _ _ (show (r.setCell ⟨w.heap.size,0,none⟩ (.slice none 0 0)).cell? ⟨w.heap.size + 1,0,none⟩ = some .nilIface by rw [World.cell?_setCell_other _ _ _ _ (by simp)]; exact V)
  have K : ∀ (o : Nat) (x : Value),r.cell? ⟨q,o,none⟩ = some x -> B.cell? ⟨q,o,none⟩ = some x := fun o x hx => by
   rw [i,World.cell?_setCell_other _ _ _ _ (by intro e; have := congrArg Addr.block e; simp only at this; omega),World.cell?_setCell_other _ _ _ _ (by intro e; have := congrArg Addr.block e; simp only at this; omega)]; exact hx
  have a2 : Below w.heap.size w B := by rw [i]; exact (t.setCell (by simp) _).setCell (by simp) _
  rw [<- i]; refine ⟨.tuple #[.slice none 0 0,.iface 103 (.pointer (some ⟨q,0,none⟩))],?_,fun h => ?_,fun _ l' hl' => ?_,fun _ n' f' hf => ?_,a2⟩
  ·simp [results,Tryz.results49,go_sem,Z,g1]
  ·rw [<- zB] at h; omega
  ·rw [L] at hl'; cases hl'
  ·rw [L] at hf
   cases hf
   exact ⟨q,rfl,K _ _ q0,by rw [<- zB]; exact K _ _ q1,K _ _ q2⟩
theorem rr (s : ByteArray) (w : World) (hs : s.size <= maxLen) :
  Calls Tryz.prog 49 #[.string s] w fun e w' => TokensPost s.data.toList w e w' := by
 by_cases b : 4000 < s.size
 ·exact tM s w hs b
 ·exact di s w (by omega)
end Go.Proofs.YtnmkffjklpfflaaGreatDoor
