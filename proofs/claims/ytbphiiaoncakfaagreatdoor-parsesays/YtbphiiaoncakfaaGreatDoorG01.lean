/- The words of a text, as plain functions on lists of bytes: what is skipped, which word comes next, all words; and small facts on them. -/
import Derived.Shelf.Strings.Fields
import Derived.Test.YtbphiiaoncakfaaGreatDoorProg
import Derived.Test.YtbphiiaoncakfaaGreatDoorRows
import Derived.WalkKit
import Derived.WalkSpells
import Derived.WalkLawsBesides
import Derived.BigQuiet
import Derived.Deep.QuietTactic
import Derived.Lib.Strings
import Derived.Lib.IndexBytes
import Derived.Lib.Bytealg
import Derived.Laws.RangeString
import Derived.Laws.RangeAny
namespace Go.Proofs.YtbphiiaoncakfaaGreatDoor

def isLetter (n : Int) : Bool := decide ((97 ≤ n ∧ n ≤ 122) ∨ (65 ≤ n ∧ n ≤ 90))
def isDigit (n : Int) : Bool := decide (48 ≤ n ∧ n ≤ 57)
def isBlank (n : Int) : Bool := decide (n = 32 ∨ n = 9 ∨ n = 13 ∨ n = 10)
def lod (n : Int) : Bool := isLetter n || isDigit n

/-- A list begins with these two bytes. -/
def starts (r : List UInt8) (a b : UInt8) : Bool := r.take 2 == [a, b]

/-- What lies behind a comment whose first sign (or more of them) is read: d are open. -/
def cmt : Nat → List UInt8 → Option (List UInt8)
  | _, [] => none
  | _, [_] => none
  | d, a :: b :: r => if a = 40 ∧ b = 42 then cmt (d + 1) r else if a = 42 ∧ b = 41 then (if d ≤ 1 then some r else cmt (d - 1) r) else cmt d (b :: r)

/-- Blanks and comments are skipped; an open comment is told by what begins with it. -/
def skipN : Nat → List UInt8 → Except (List UInt8) (List UInt8)
  | 0, r => .ok r
  | _ + 1, [] => .ok []
  | n + 1, c :: r => if isBlank c.toNat then skipN n r else if starts (c :: r) 40 42 then (match cmt 0 (c :: r) with | none => .error (c :: r) | some r' => skipN n r') else .ok (c :: r)

def skp (r : List UInt8) : Except (List UInt8) (List UInt8) := skipN r.length r

def leadOf (p : Int → Bool) (r : List UInt8) : List UInt8 := r.takeWhile (fun c => p c.toNat)

/-- The value of digits, from a value on; none: it is too great. -/
def valueFrom : Int → List UInt8 → Option Int
  | v, [] => some v
  | v, c :: r => if (2147483647 - ((c.toNat : Int) - 48)) / 10 < v then none else valueFrom (v * 10 + ((c.toNat : Int) - 48)) r

def signs : List UInt8 := [61, 35, 60, 62, 43, 45, 42, 38, 126, 40, 41, 91, 93, 123, 125, 44, 59, 58, 46, 94]

def signOf (r : List UInt8) : List UInt8 :=
  if starts r 58 61 || starts r 60 61 || starts r 62 61 then r.take 2
  else if r.take 1 ≠ [] ∧ signs.contains (r.headD 0) then r.take 1 else []

/-- The word that begins here, or what is wrong. -/
def wordOf (r : List UInt8) : Except Nat (List UInt8) :=
  if isLetter (r.headD 0).toNat then (if 12 < (leadOf lod r).length then .error 3 else .ok (leadOf lod r))
  else if isDigit (r.headD 0).toNat then (match valueFrom 0 (leadOf isDigit r) with | none => .error 3 | some _ => .ok (leadOf isDigit r))
  else if signOf r = [] then .error 1 else .ok (signOf r)

/-- All words, each with what begins with it; or what is wrong, and where. -/
def toksN : Nat → List UInt8 → Except (Nat × List UInt8) (List (List UInt8 × List UInt8))
  | 0, _ => .ok []
  | n + 1, r => match skp r with
    | .error f => .error (2, f)
    | .ok [] => .ok [([], [])]
    | .ok (c :: r') => match wordOf (c :: r') with
      | .error e => .error (e, c :: r')
      | .ok w => match toksN n ((c :: r').drop w.length) with
        | .error x => .error x
        | .ok l => .ok ((w, c :: r') :: l)

def toks (r : List UInt8) : Except (Nat × List UInt8) (List (List UInt8 × List UInt8)) := toksN (r.length + 1) r

theorem cmt_nil (d : Nat) : cmt d [] = none := by simp [cmt]
theorem cmt_one (d : Nat) (a : UInt8) : cmt d [a] = none := by simp [cmt]
theorem cmt_two (d : Nat) (a b : UInt8) (r : List UInt8) : cmt d (a :: b :: r) = if a = 40 ∧ b = 42 then cmt (d + 1) r else if a = 42 ∧ b = 41 then (if d ≤ 1 then some r else cmt (d - 1) r) else cmt d (b :: r) := by
  rw [cmt]

theorem cmt_suffix : ∀ (n d : Nat) (r r' : List UInt8), r.length ≤ n → cmt d r = some r' → ∃ p : List UInt8, r = p ++ r' ∧ 2 ≤ p.length
  | 0, d, r, r', hn, h => by
    cases r with
    | nil => simp [cmt] at h
    | cons a r => simp at hn
  | n + 1, d, [], r', hn, h => by simp [cmt] at h
  | n + 1, d, [a], r', hn, h => by simp [cmt] at h
  | n + 1, d, a :: b :: r, r', hn, h => by
    rw [cmt_two] at h; simp only [List.length_cons] at hn
    split at h
    · obtain ⟨p, hp, _⟩ := cmt_suffix n _ r r' (by omega) h
      exact ⟨a :: b :: p, by simp [hp], by simp⟩
    · split at h
      · split at h
        · simp only [Option.some.injEq] at h
          exact ⟨[a, b], by simp [h], by simp⟩
        · obtain ⟨p, hp, _⟩ := cmt_suffix n _ r r' (by omega) h
          exact ⟨a :: b :: p, by simp [hp], by simp⟩
      · obtain ⟨p, hp, h2⟩ := cmt_suffix n _ (b :: r) r' (by simp; omega) h
        exact ⟨a :: p, by simp [hp], by simp; omega⟩

theorem cmt_suffix' {d : Nat} {r r' : List UInt8} (h : cmt d r = some r') : ∃ p : List UInt8, r = p ++ r' ∧ 2 ≤ p.length := cmt_suffix r.length d r r' (Nat.le_refl _) h

theorem skipN_eq : ∀ (n m : Nat) (r : List UInt8), r.length ≤ n → r.length ≤ m → skipN n r = skipN m r
  | 0, m, [], _, _ => by cases m <;> simp [skipN]
  | n + 1, m, [], _, _ => by cases m <;> simp [skipN]
  | 0, m, c :: r, h, _ => by simp at h
  | n + 1, 0, c :: r, _, h => by simp at h
  | n + 1, m + 1, c :: r, h1, h2 => by
    simp only [List.length_cons] at h1 h2; rw [skipN, skipN]
    split
    · exact skipN_eq n m r (by omega) (by omega)
    · split
      · split
        · rfl
        · rename_i r' hc
          obtain ⟨p, hp, hl⟩ := cmt_suffix' hc
          have hlen : (c :: r).length = p.length + r'.length := by rw [hp]; simp
          simp only [List.length_cons] at hlen
          exact skipN_eq n m r' (by omega) (by omega)
      · rfl

theorem skp_nil : skp [] = .ok [] := rfl
theorem skp_blank {c : UInt8} {r : List UInt8} (h : isBlank c.toNat = true) : skp (c :: r) = skp r := by
  show skipN (r.length + 1) (c :: r) = skipN r.length r
  rw [skipN, if_pos h]
theorem skp_open {c : UInt8} {r : List UInt8} (h : isBlank c.toNat = false) (hs : starts (c :: r) 40 42 = true) (hc : cmt 0 (c :: r) = none) : skp (c :: r) = .error (c :: r) := by
  show skipN (r.length + 1) (c :: r) = _
  rw [skipN, if_neg (by simp [h]), if_pos hs, hc]
theorem skp_shut {c : UInt8} {r r' : List UInt8} (h : isBlank c.toNat = false) (hs : starts (c :: r) 40 42 = true) (hc : cmt 0 (c :: r) = some r') : skp (c :: r) = skp r' := by
  show skipN (r.length + 1) (c :: r) = skipN r'.length r'
  rw [skipN, if_neg (by simp [h]), if_pos hs, hc]; obtain ⟨p, hp, hl⟩ := cmt_suffix' hc
  have hlen : (c :: r).length = p.length + r'.length := by rw [hp]; simp
  simp only [List.length_cons] at hlen
  exact skipN_eq _ _ r' (by omega) (by omega)
theorem skp_word {c : UInt8} {r : List UInt8} (h : isBlank c.toNat = false) (hs : starts (c :: r) 40 42 = false) : skp (c :: r) = .ok (c :: r) := by
  show skipN (r.length + 1) (c :: r) = _
  rw [skipN, if_neg (by simp [h]), if_neg (by simp [hs])]

/-- What is skipped to is an end of what there was. -/
theorem skipN_suffix : ∀ (n : Nat) (r r' : List UInt8), skipN n r = .ok r' → ∃ p : List UInt8, r = p ++ r'
  | 0, r, r', h => ⟨[], by simp [skipN] at h; simp [h]⟩
  | n + 1, [], r', h => ⟨[], by simp [skipN] at h; simp [h]⟩
  | n + 1, c :: r, r', h => by
    rw [skipN] at h
    split at h
    · obtain ⟨p, hp⟩ := skipN_suffix n r r' h
      exact ⟨c :: p, by simp [hp]⟩
    · split at h
      · split at h
        · simp at h
        · rename_i r1 hc
          obtain ⟨p, hp, _⟩ := cmt_suffix' hc; obtain ⟨p2, hp2⟩ := skipN_suffix n r1 r' h
          exact ⟨p ++ p2, by rw [hp, hp2]; simp⟩
      · simp only [Except.ok.injEq] at h
        exact ⟨[], by simp [h]⟩

theorem skp_suffix {r r' : List UInt8} (h : skp r = .ok r') : ∃ p : List UInt8, r = p ++ r' := skipN_suffix _ r r' h

/-- What an open comment is told by is an end, too. -/
theorem skipN_error : ∀ (n : Nat) (r f : List UInt8), skipN n r = .error f → ∃ p : List UInt8, r = p ++ f
  | 0, r, f, h => by simp [skipN] at h
  | n + 1, [], f, h => by simp [skipN] at h
  | n + 1, c :: r, f, h => by
    rw [skipN] at h
    split at h
    · obtain ⟨p, hp⟩ := skipN_error n r f h
      exact ⟨c :: p, by simp [hp]⟩
    · split at h
      · split at h
        · simp only [Except.error.injEq] at h
          exact ⟨[], by simp [h]⟩
        · rename_i r1 hc
          obtain ⟨p, hp, _⟩ := cmt_suffix' hc; obtain ⟨p2, hp2⟩ := skipN_error n r1 f h
          exact ⟨p ++ p2, by rw [hp, hp2]; simp⟩
      · simp at h

theorem skp_error {r f : List UInt8} (h : skp r = .error f) : ∃ p : List UInt8, r = p ++ f := skipN_error _ r f h

end Go.Proofs.YtbphiiaoncakfaaGreatDoor

/- The library's strings.Fields at this program's numbers, by the library's own contract: laid, no walk. -/
namespace Go.Proofs
open Go.Shelf
def Tryz.lays157_ren : Go.Shelf.Ren := ⟨fun | 157 => 36 | 229 => 49 | 199 => 50 | 261 => 83 | 311 => 106 | 312 => 107 | n => n, fun | 9 => 9 | 31 => 71 | 3 => 3 | 5 => 5 | 4 => 4 | 119 => 82 | 0 => 0 | 40 => 84 | 152 => 106 | 21 => 21 | 154 => 108 | 51 => 109 | 141 => 111 | 196 => 134 | 193 => 131 | 198 => 137 | 49 => 135 | 194 => 132 | 201 => 140 | 226 => 143 | 46 => 144 | 227 => 145 | n => n, fun | 0 => 0 | 6 => 2 | n => n⟩
theorem Tryz.lays157 : Go.Proofs.Lays.n157 Tryz.prog Tryz.lays157_ren := {
  mixed := by kernel_rfl
  f157 := Tryz.func36.trans (congrArg some (by kernel_rfl))
  f199 := Tryz.func50.trans (congrArg some (by kernel_rfl))
  f229 := Tryz.func49.trans (congrArg some (by kernel_rfl))
  f261 := Tryz.func83.trans (congrArg some (by kernel_rfl))
  f311 := Tryz.func106.trans (congrArg some (by kernel_rfl))
  f312 := Tryz.func107.trans (congrArg some (by kernel_rfl))
  t0 := Tryz.underlying0
  a0 := Tryz.isAgg0
  z0 := Tryz.sizeOf0
  v0 := Tryz.zeroValue0
  t3 := Tryz.underlying3
  a3 := Tryz.isAgg3
  z3 := Tryz.sizeOf3
  v3 := Tryz.zeroValue3
  t4 := Tryz.underlying4
  a4 := Tryz.isAgg4
  z4 := Tryz.sizeOf4
  v4 := Tryz.zeroValue4
  t5 := Tryz.underlying5
  a5 := Tryz.isAgg5
  z5 := Tryz.sizeOf5
  v5 := Tryz.zeroValue5
  t9 := Tryz.underlying9
  a9 := Tryz.isAgg9
  z9 := Tryz.sizeOf9
  v9 := Tryz.zeroValue9
  t21 := Tryz.underlying21
  a21 := Tryz.isAgg21
  z21 := Tryz.sizeOf21
  v21 := Tryz.zeroValue21
  t31 := Tryz.underlying71
  a31 := Tryz.isAgg71
  z31 := Tryz.sizeOf71
  v31 := Tryz.zeroValue71
  t40 := Tryz.underlying84
  a40 := Tryz.isAgg84
  z40 := Tryz.sizeOf84
  v40 := Tryz.zeroValue84
  t46 := Tryz.underlying144
  a46 := Tryz.isAgg144
  z46 := Tryz.sizeOf144
  v46 := Tryz.zeroValue144
  t49 := Tryz.underlying135
  a49 := Tryz.isAgg135
  z49 := Tryz.sizeOf135
  v49 := Tryz.zeroValue135
  t51 := Tryz.underlying109
  a51 := Tryz.isAgg109
  z51 := Tryz.sizeOf109
  v51 := Tryz.zeroValue109
  t119 := Tryz.underlying82
  a119 := Tryz.isAgg82
  z119 := Tryz.sizeOf82
  t141 := Tryz.underlying111
  a141 := Tryz.isAgg111
  z141 := Tryz.sizeOf111
  v141 := Tryz.zeroValue111
  t152 := Tryz.underlying106
  a152 := Tryz.isAgg106
  z152 := Tryz.sizeOf106
  v152 := Tryz.zeroValue106
  t154 := Tryz.underlying108
  a154 := Tryz.isAgg108
  z154 := Tryz.sizeOf108
  v154 := Tryz.zeroValue108
  t193 := Tryz.underlying131
  a193 := Tryz.isAgg131
  z193 := Tryz.sizeOf131
  v193 := Tryz.zeroValue131
  t194 := Tryz.underlying132
  a194 := Tryz.isAgg132
  z194 := Tryz.sizeOf132
  v194 := Tryz.zeroValue132
  t196 := Tryz.underlying134
  a196 := Tryz.isAgg134
  z196 := Tryz.sizeOf134
  v196 := Tryz.zeroValue134
  t198 := Tryz.underlying137
  a198 := Tryz.isAgg137
  z198 := Tryz.sizeOf137
  v198 := Tryz.zeroValue137
  t201 := Tryz.underlying140
  a201 := Tryz.isAgg140
  z201 := Tryz.sizeOf140
  v201 := Tryz.zeroValue140
  t226 := Tryz.underlying143
  a226 := Tryz.isAgg143
  z226 := Tryz.sizeOf143
  v226 := Tryz.zeroValue143
  t227 := Tryz.underlying145
  a227 := Tryz.isAgg145
  z227 := Tryz.sizeOf145
  v227 := Tryz.zeroValue145
  g0 := by kernel_rfl
  g6 := by kernel_rfl }
open Go.RowKit Go.Lib in
theorem Tryz.strings_Fields (s : ByteArray) (w : World) (hs : s.size < 4294967281) (hascii : ∀ (j : Nat) b, s.data.toList[j]? = some b → b.toNat < 128) (htab : Lib.TabIs Tryz.prog w "strings.asciiSpace" .u8 Lib.asciiSpaceTab) :
    Calls Tryz.prog 36 #[.string s] w fun e w' =>
      e = .returned (.slice (some ⟨w.heap.size, 0, none⟩) (Lib.fields s.data.toList).length (Lib.fields s.data.toList).length) ∧ w' = w.alloc (.cells ((Lib.fields s.data.toList).map fun l => Value.string ⟨l.toArray⟩).toArray 9) := Any.strings_Fields Tryz.lays157 (by kernel_rfl) (by kernel_rfl) s w hs hascii htab
end Go.Proofs

/- The scanner's small functions: which runes are letters, digits, blanks; a text's beginning; a byte's place: each call answers just what the plain function says and leaves the world as it was. -/
namespace Go.Proofs.YtbphiiaoncakfaaGreatDoor
open Go.RowKit

set_option maxHeartbeats 400000 in
theorem letter_any (r : Int) (w : World) :
    Calls Tryz.prog 76 #[.int .i32 r] w fun e w' => e = .returned (.bool (isLetter r)) ∧ w' = w := by
  by_cases h1 : 97 ≤ r
  · by_cases h2 : r ≤ 122
    · have hl : isLetter r = true := by simp [isLetter]; omega
      rw [hl]
      go_enter Tryz.func76, Tryz.ntmps76
      go_wp2
      go_ret
      first | exact ⟨rfl, rfl⟩ | (refine ⟨?_, rfl⟩; simp; omega)
    · have hl : isLetter r = false := by simp [isLetter]; omega
      rw [hl]
      go_enter Tryz.func76, Tryz.ntmps76
      go_wp2
      go_ret
      first | exact ⟨rfl, rfl⟩ | (refine ⟨?_, rfl⟩; simp; omega)
  · by_cases h3 : 65 ≤ r
    · by_cases h4 : r ≤ 90
      · have hl : isLetter r = true := by simp [isLetter]; omega
        rw [hl]
        go_enter Tryz.func76, Tryz.ntmps76
        go_wp2
        go_ret
        first | exact ⟨rfl, rfl⟩ | (refine ⟨?_, rfl⟩; simp; omega)
      · have hl : isLetter r = false := by simp [isLetter]; omega
        rw [hl]
        go_enter Tryz.func76, Tryz.ntmps76
        go_wp2
        go_ret
        first | exact ⟨rfl, rfl⟩ | (refine ⟨?_, rfl⟩; simp; omega)
    · have hl : isLetter r = false := by simp [isLetter]; omega
      rw [hl]
      go_enter Tryz.func76, Tryz.ntmps76
      go_wp2
      go_ret
      first | exact ⟨rfl, rfl⟩ | (refine ⟨?_, rfl⟩; simp; omega)

set_option maxHeartbeats 400000 in
theorem digit_any (r : Int) (w : World) :
    Calls Tryz.prog 80 #[.int .i32 r] w fun e w' => e = .returned (.bool (isDigit r)) ∧ w' = w := by
  by_cases h1 : 48 ≤ r
  · by_cases h2 : r ≤ 57
    · have hl : isDigit r = true := by simp [isDigit]; omega
      rw [hl]
      go_enter Tryz.func80, Tryz.ntmps80
      go_wp2
      go_ret
      first | exact ⟨rfl, rfl⟩ | (refine ⟨?_, rfl⟩; simp; omega)
    · have hl : isDigit r = false := by simp [isDigit]; omega
      rw [hl]
      go_enter Tryz.func80, Tryz.ntmps80
      go_wp2
      go_ret
      first | exact ⟨rfl, rfl⟩ | (refine ⟨?_, rfl⟩; simp; omega)
  · have hl : isDigit r = false := by simp [isDigit]; omega
    rw [hl]
    go_enter Tryz.func80, Tryz.ntmps80
    go_wp2
    go_ret
    first | exact ⟨rfl, rfl⟩ | (refine ⟨?_, rfl⟩; simp; omega)

set_option maxHeartbeats 400000 in
theorem lod_any (r : Int) (w : World) :
    Calls Tryz.prog 78 #[.int .i32 r] w fun e w' => e = .returned (.bool (lod r)) ∧ w' = w := by
  show Calls Tryz.prog 78 #[.int .i32 r] w fun e w' => e = .returned (.bool (isLetter r || isDigit r)) ∧ w' = w
  cases hl : isLetter r
  · go_enter Tryz.func78, Tryz.ntmps78
    go_wp2_with (first | (go_at_call 76; refine (letter_any _ _).mono ?_; rintro e w' ⟨rfl, rfl⟩; simp only [hl]) | (go_at_call 80; refine (digit_any _ _).mono ?_; rintro e w' ⟨rfl, rfl⟩))
    go_ret
    exact ⟨by simp, rfl⟩
  · go_enter Tryz.func78, Tryz.ntmps78
    go_wp2_with (first | (go_at_call 76; refine (letter_any _ _).mono ?_; rintro e w' ⟨rfl, rfl⟩; simp only [hl]) | (go_at_call 80; refine (digit_any _ _).mono ?_; rintro e w' ⟨rfl, rfl⟩))
    go_ret
    exact ⟨by simp, rfl⟩

set_option maxHeartbeats 400000 in
theorem blank_any (r : Int) (w : World) :
    Calls Tryz.prog 72 #[.int .u8 r] w fun e w' => e = .returned (.bool (isBlank r)) ∧ w' = w := by
  by_cases h1 : r = 32
  · subst h1
    go_enter Tryz.func72, Tryz.ntmps72
    go_wp2
    go_ret
    exact ⟨rfl, rfl⟩
  · have e1 : (r == 32) = false := by simp [h1]
    by_cases h2 : r = 9
    · subst h2
      go_enter Tryz.func72, Tryz.ntmps72
      go_wp2
      go_ret
      exact ⟨rfl, rfl⟩
    · have e2 : (r == 9) = false := by simp [h2]
      by_cases h3 : r = 13
      · subst h3
        go_enter Tryz.func72, Tryz.ntmps72
        go_wp2
        go_ret
        exact ⟨rfl, rfl⟩
      · have e3 : (r == 13) = false := by simp [h3]
        have hb : isBlank r = (r == 10) := by simp [isBlank, h1, h2, h3]; rfl
        rw [hb]; clear hb h1 h2 h3
        go_enter Tryz.func72, Tryz.ntmps72
        go_wp2
        go_ret
        exact ⟨rfl, rfl⟩

theorem bs_toList (s : ByteArray) : s.toList = s.data.toList := Lib.toList_data s
theorem bs_drop (s : ByteArray) (k : Nat) : (s.extract k s.size).data.toList = s.data.toList.drop k := Lib.extract_to_end s k
theorem bs_take (s : ByteArray) (k : Nat) : (s.extract 0 k).data.toList = s.data.toList.take k := by rw [Lib.extract_data]; simp
theorem bs_size (s : ByteArray) : s.size = s.data.toList.length := Lib.size_eq s

set_option maxHeartbeats 400000 in
theorem hp_any (s : ByteArray) (a b : UInt8) (w : World) (hs : s.size ≤ maxLen) :
    Calls Tryz.prog 73 #[.string s, .string ⟨#[a, b]⟩] w fun e w' => e = .returned (.bool (starts s.data.toList a b)) ∧ w' = w := by
  unfold maxLen at hs
  by_cases h2 : 2 ≤ s.size
  · go_enter Tryz.func73, Tryz.ntmps73
    go_wp2
    go_ret
    exact ⟨by simp [starts, bs_toList], rfl⟩
  · have hf : starts s.data.toList a b = false := by
      unfold starts
      rw [beq_eq_false_iff_ne]; intro h; have := congrArg List.length h; rw [bs_size] at h2; simp only [List.length_take, List.length_cons, List.length_nil] at this
      omega
    rw [hf]
    have h3 : s.size < 2 := by omega
    clear h2 hf
    go_enter Tryz.func73, Tryz.ntmps73
    go_wp2
    go_ret
    exact ⟨rfl, rfl⟩

set_option maxHeartbeats 400000 in
theorem rest_any (b : Nat) (s : ByteArray) (k : Nat) (w : World) (_hs : s.size ≤ maxLen) (hk : k ≤ s.size)
    (c0 : w.cell? ⟨b, 0, none⟩ = some (.string s)) (c1 : w.cell? ⟨b, 1, none⟩ = some (.int .i64 k)) :
    Calls Tryz.prog 74 #[.pointer (some ⟨b, 0, none⟩)] w fun e w' => e = .returned (.string (s.extract k s.size)) ∧ ∃ n, w' = w.drewN n := by
  unfold maxLen at _hs
  go_enter Tryz.func74, Tryz.ntmps74
  go_wp2
  go_quiet (fail)
  go_wp2
  go_ret
  exact ⟨rfl, _, rfl⟩

end Go.Proofs.YtbphiiaoncakfaaGreatDoor

/- The scanner's middle functions: a sign's text, a lead of runes, the value of digits, a fault that is thrown. -/
namespace Go.Proofs.YtbphiiaoncakfaaGreatDoor
open Go.RowKit

theorem hide {p : Prop} (h : p) : Hid p := h
theorem unhide {p : Prop} (h : Hid p) : p := h

theorem grownBy_iter (w : World) (s : ByteArray) (k : Nat) : w.grownBy (w.iter s k) none := World.grownBy_alloc w _ none

theorem lod_high {n : Int} (h : 128 ≤ n) : lod n = false := by simp [lod, isLetter, isDigit]; omega
theorem digit_high {n : Int} (h : 128 ≤ n) : isDigit n = false := by simp [isDigit]; omega

theorem takeWhile_stop (p : UInt8 → Bool) : ∀ (l : List UInt8) (k : Nat), k ≤ l.length → (∀ j (h : j < l.length), j < k → p l[j] = true) → (∀ h : k < l.length, p l[k] = false) → l.takeWhile p = l.take k
  | [], k, _, _, _ => by simp
  | a :: l, 0, _, _, h2 => by
    have := h2 (by simp); simp only [List.getElem_cons_zero] at this
    simp [List.takeWhile, this]
  | a :: l, k + 1, hk, h1, h2 => by
    have ha := h1 0 (by simp) (by omega); simp only [List.getElem_cons_zero] at ha; simp only [List.takeWhile, ha, List.take_succ_cons]; rw [takeWhile_stop p l k (by simpa using hk) (fun j h hj => h1 (j + 1) (by simpa using h) (by omega)) (fun h => h2 (by simpa using h))]

theorem leadOf_stop {p : Int → Bool} (s : ByteArray) (k : Nat) (hk : k ≤ s.size) (h1 : ∀ (j : Nat) (h : j < s.size), j < k → p (s[j]'h).toNat = true) (h2 : ∀ h : k < s.size, p (s[k]'h).toNat = false) : leadOf p s.data.toList = s.data.toList.take k := by
  refine takeWhile_stop _ _ _ (by rw [← bs_size]; exact hk) (fun j h hj => ?_) (fun h => ?_)
  · exact h1 j (by rw [bs_size]; exact h) hj
  · exact h2 (by rw [bs_size]; exact h)

theorem leadOf_whole {p : Int → Bool} (s : ByteArray) (k : Nat) (hk : k ≤ s.size) (h1 : ∀ (j : Nat) (h : j < s.size), j < k → p (s[j]'h).toNat = true) (h2 : ¬ k < s.size) : leadOf p s.data.toList = s.data.toList := by
  rw [leadOf_stop s k hk h1 (fun h => absurd h h2), List.take_of_length_le]; rw [← bs_size]; omega

set_option maxHeartbeats 400000 in
theorem ib_any (s : ByteArray) (c : UInt8) (w : World) :
    Calls Tryz.prog 105 #[.string s, .int .u8 c.toNat] w fun e w' => e = .returned (.int .i64 (Lib.indexByte s.data.toList c)) ∧ w' = w := by
  have hx := @run_callFunc_extern Tryz.prog 132 _ _ Tryz.func132 (by kernel_rfl) (by kernel_rfl) (by kernel_rfl) rfl
  have hy := fun w => Lib.run_indexByteString (P := Tryz.prog) s c.toNat w
  simp only [Int.toNat_natCast, Nat.toUInt8_eq, UInt8.ofNat_toNat] at hy
  go_enter Tryz.func105, Tryz.ntmps105
  go_wp2
  go_ret
  exact ⟨rfl, rfl⟩

set_option maxHeartbeats 400000 in
theorem throw_any (p : Value) (k n : Int) (w : World) :
    Calls Tryz.prog 79 #[p, .int .i64 k, .int .i64 n] w fun e w' => e = .panicked [{ v := .iface 49 (.pointer (some ⟨w.heap.size, 0, none⟩)), recovered := false }] ∧ w' = w.alloc (.cells #[.int .i64 0, .int .i64 k, .iface 26 (.int .i64 n)] 78) := by
  go_enter Tryz.func79, Tryz.ntmps79
  go_wp2
  exact ⟨rfl, rfl, rfl⟩

set_option maxRecDepth 1000000 in
set_option maxHeartbeats 1000000 in
theorem lead_lod (s : ByteArray) (w : World) (_hs : s.size ≤ maxLen) :
    Calls Tryz.prog 77 #[.string s, .func (.func 78) #[] #[]] w fun e w' => ∃ x : ByteArray, e = .returned (.string x) ∧ x.data.toList = leadOf lod s.data.toList ∧ w.grownBy w' none := by
  unfold maxLen at _hs
  go_enter Tryz.func77, Tryz.ntmps77
  go_wp2
  go_loopw [6] (fun _ wr => ∃ k : Nat, wr = w.iter s k ∧ k ≤ s.size ∧ ∀ (j : Nat) (h : j < s.size), j < k → lod (s[j]'h).toNat = true) (fun _ wr => s.size - wr.iterPos w.heap.size)
  case atStart => exact ⟨0, rfl, Nat.zero_le _, fun j h hj => by omega⟩
  case round =>
    obtain ⟨k, rfl, hk, HB⟩ := hrel; have HB' := hide HB; clear HB
    by_cases hlt : k < s.size
    · have hnx : ∀ ty, (Instr.next (.pointer (some ⟨w.heap.size, 0, none⟩)) true ty).run Tryz.prog (w.iter s k) = _ := fun ty => run_next_any w s k ty hlt
      cases hp : lod (s[k]'hlt).toNat
      · have hno : lod (Utf8.decode s k).1 = false := by
          by_cases ha : (s[k]'hlt).toNat < 128
          · rw [decode_ascii s k hlt ha]; exact hp
          · exact lod_high (by have := (decode_high s k hlt (by omega)).1; omega)
        have Hp := hide hp; clear hp
        go_wp2_with (go_at_call 78; refine (lod_any _ _).mono ?_; rintro e w' ⟨rfl, rfl⟩; simp only [hno])
        go_ret
        exact ⟨_, rfl, by rw [bs_take]; exact (leadOf_stop s k hk (unhide HB') (fun h => unhide Hp)).symm, grownBy_iter w s _⟩
      · have ha : (s[k]'hlt).toNat < 128 := by
          rcases Nat.lt_or_ge (s[k]'hlt).toNat 128 with h | h
          · exact h
          · rw [lod_high (by omega)] at hp; cases hp
        rw [decode_ascii s k hlt ha] at hnx; have hyes : lod ((s[k]'hlt).toNat : Nat) = true := hp; have Hp := hide hp; clear hp
        go_wp2_with (go_at_call 78; refine (lod_any _ _).mono ?_; rintro e w' ⟨rfl, rfl⟩; simp only [hyes])
        go_roundw
        case rel => exact ⟨k + 1, rfl, by omega, fun j h hj => by
          rcases Nat.lt_or_ge j k with h1 | h1
          · exact unhide HB' j h h1
          · obtain rfl : j = k := by omega
            exact unhide Hp⟩
        case measure => simp; omega
    · have hnx : ∀ ty, (Instr.next (.pointer (some ⟨w.heap.size, 0, none⟩)) true ty).run Tryz.prog (w.iter s k) = _ := fun ty => run_next_end w s k ty hlt
      go_wp2
      go_ret
      exact ⟨_, rfl, (leadOf_whole s k hk (unhide HB') hlt).symm, grownBy_iter w s _⟩

set_option maxRecDepth 1000000 in
set_option maxHeartbeats 1000000 in
theorem lead_digit (s : ByteArray) (w : World) (_hs : s.size ≤ maxLen) :
    Calls Tryz.prog 77 #[.string s, .func (.func 80) #[] #[]] w fun e w' => ∃ x : ByteArray, e = .returned (.string x) ∧ x.data.toList = leadOf isDigit s.data.toList ∧ w.grownBy w' none := by
  unfold maxLen at _hs
  go_enter Tryz.func77, Tryz.ntmps77
  go_wp2
  go_loopw [6] (fun _ wr => ∃ k : Nat, wr = w.iter s k ∧ k ≤ s.size ∧ ∀ (j : Nat) (h : j < s.size), j < k → isDigit (s[j]'h).toNat = true) (fun _ wr => s.size - wr.iterPos w.heap.size)
  case atStart => exact ⟨0, rfl, Nat.zero_le _, fun j h hj => by omega⟩
  case round =>
    obtain ⟨k, rfl, hk, HB⟩ := hrel; have HB' := hide HB; clear HB
    by_cases hlt : k < s.size
    · have hnx : ∀ ty, (Instr.next (.pointer (some ⟨w.heap.size, 0, none⟩)) true ty).run Tryz.prog (w.iter s k) = _ := fun ty => run_next_any w s k ty hlt
      cases hp : isDigit (s[k]'hlt).toNat
      · have hno : isDigit (Utf8.decode s k).1 = false := by
          by_cases ha : (s[k]'hlt).toNat < 128
          · rw [decode_ascii s k hlt ha]; exact hp
          · exact digit_high (by have := (decode_high s k hlt (by omega)).1; omega)
        have Hp := hide hp; clear hp
        go_wp2_with (go_at_call 80; refine (digit_any _ _).mono ?_; rintro e w' ⟨rfl, rfl⟩; simp only [hno])
        go_ret
        exact ⟨_, rfl, by rw [bs_take]; exact (leadOf_stop s k hk (unhide HB') (fun h => unhide Hp)).symm, grownBy_iter w s _⟩
      · have ha : (s[k]'hlt).toNat < 128 := by
          rcases Nat.lt_or_ge (s[k]'hlt).toNat 128 with h | h
          · exact h
          · rw [digit_high (by omega)] at hp; cases hp
        rw [decode_ascii s k hlt ha] at hnx; have hyes : isDigit ((s[k]'hlt).toNat : Nat) = true := hp; have Hp := hide hp; clear hp
        go_wp2_with (go_at_call 80; refine (digit_any _ _).mono ?_; rintro e w' ⟨rfl, rfl⟩; simp only [hyes])
        go_roundw
        case rel => exact ⟨k + 1, rfl, by omega, fun j h hj => by
          rcases Nat.lt_or_ge j k with h1 | h1
          · exact unhide HB' j h h1
          · obtain rfl : j = k := by omega
            exact unhide Hp⟩
        case measure => simp; omega
    · have hnx : ∀ ty, (Instr.next (.pointer (some ⟨w.heap.size, 0, none⟩)) true ty).run Tryz.prog (w.iter s k) = _ := fun ty => run_next_end w s k ty hlt
      go_wp2
      go_ret
      exact ⟨_, rfl, (leadOf_whole s k hk (unhide HB') hlt).symm, grownBy_iter w s _⟩

end Go.Proofs.YtbphiiaoncakfaaGreatDoor

/- The value of digits, and the sign that a text begins with. -/
namespace Go.Proofs.YtbphiiaoncakfaaGreatDoor
open Go.RowKit

theorem drop_at (s : ByteArray) (k : Nat) (h : k < s.size) : s.data.toList.drop k = s[k] :: s.data.toList.drop (k + 1) := by
  rw [List.drop_eq_getElem_cons (by rw [← bs_size]; exact h)]; rfl

theorem valueFrom_too {v : Int} {c : UInt8} {l : List UInt8} (h : (2147483647 - ((c.toNat : Int) - 48)) / 10 < v) : valueFrom v (c :: l) = none := by
  rw [valueFrom, if_pos h]
theorem valueFrom_on {v : Int} {c : UInt8} {l : List UInt8} (h : ¬ (2147483647 - ((c.toNat : Int) - 48)) / 10 < v) : valueFrom v (c :: l) = valueFrom (v * 10 + ((c.toNat : Int) - 48)) l := by
  rw [valueFrom, if_neg h]

theorem ret2_int {a b : Int} {x : Value} (h : a = b) : Ending.returned (.tuple #[.int .i64 a, x]) = .returned (.tuple #[.int .i64 b, x]) := by rw [h]

/-- What Value answers. -/
def valueAns : Option Int → Ending
  | none => .returned (.tuple #[.int .i64 0, .bool false])
  | some v => .returned (.tuple #[.int .i64 v, .bool true])

set_option maxRecDepth 1000000 in
set_option maxHeartbeats 1000000 in
theorem value_any (s : ByteArray) (w : World) (_hs : s.size ≤ maxLen) (hne : s.data.toList.isEmpty = false)
    (hd : ∀ (j : Nat) (h : j < s.size), isDigit (s[j]'h).toNat = true) :
    Calls Tryz.prog 81 #[.string s] w fun e w' => e = valueAns (valueFrom 0 s.data.toList) ∧ w.grownBy w' none := by
  unfold maxLen at _hs
  have HD := hide hd; have HE := hide hne
  have hemp : (s.toList == []) = false := by rw [bs_toList]; cases h : s.data.toList with | nil => rw [h] at hne; cases hne | cons a l => rfl
  clear hd hne
  go_enter Tryz.func81, Tryz.ntmps81
  go_wp2
  go_loopw [2] (fun v wr => ∃ (k : Nat) (n : Int), wr = w.iter s k ∧ k ≤ s.size ∧ v = .int .i64 n ∧ 0 ≤ n ∧ n ≤ 2147483647 ∧ Hid (valueFrom n (s.data.toList.drop k) = valueFrom 0 s.data.toList)) (fun _ wr => s.size - wr.iterPos w.heap.size)
  case atStart => exact ⟨0, 0, rfl, Nat.zero_le _, rfl, by omega, by omega, rfl⟩
  case round =>
    obtain ⟨k, n, rfl, hk, rfl, h0, h1, HB⟩ := hrel
    by_cases hlt : k < s.size
    · have hdk := unhide HD k hlt
      have hb1 : 48 ≤ ((s[k]'hlt).toNat : Int) := by simp [isDigit] at hdk; omega
      have hb2 : ((s[k]'hlt).toNat : Int) ≤ 57 := by simp [isDigit] at hdk; omega
      have hnx : ∀ ty, (Instr.next (.pointer (some ⟨w.heap.size, 0, none⟩)) true ty).run Tryz.prog (w.iter s k) = _ := fun ty => run_next_ascii w s k ty hlt (by omega)
      have HX := HB.out; rw [drop_at s k hlt] at HX
      by_cases hv : (2147483647 - (((s[k]'hlt).toNat : Int) - 48)) / 10 < n
      · rw [valueFrom_too hv] at HX
        have H2 := hide HX; clear HX HB HD HE
        go_wp2_with (go_at_call 80; refine (digit_any _ _).mono ?_; rintro e w' ⟨rfl, rfl⟩; simp only [hdk])
        go_ret2
        exact ⟨by rw [← H2.out]; rfl, grownBy_iter w s _⟩
      · rw [valueFrom_on hv] at HX
        have H2 := hide HX; clear HX HB
        go_wp2_with (go_at_call 80; refine (digit_any _ _).mono ?_; rintro e w' ⟨rfl, rfl⟩; simp only [hdk])
        go_roundw
        case rel => exact ⟨k + 1, n * 10 + (((s[k]'hlt).toNat : Int) - 48), rfl, by omega, rfl, by omega, by omega, H2⟩
        case measure => simp; omega
    · have hnx : ∀ ty, (Instr.next (.pointer (some ⟨w.heap.size, 0, none⟩)) true ty).run Tryz.prog (w.iter s k) = _ := fun ty => run_next_end w s k ty hlt
      have HX := HB.out; rw [List.drop_eq_nil_of_le (by rw [← bs_size]; omega)] at HX; have H2 := hide HX; clear HX HB HD HE; go_wp2
      go_ret2
      exact ⟨by rw [← H2.out]; rfl, grownBy_iter w s _⟩

theorem starts_is (s : ByteArray) (a b : UInt8) : ((s.extract 0 2).toList == [a, b]) = starts s.data.toList a b := by
  rw [bs_toList, bs_take]; rfl

theorem indexByte_ge (l : List UInt8) (c : UInt8) : -1 ≤ Lib.indexByte l c := by
  induction l with
  | nil => simp [Lib.indexByte]
  | cons a l ih =>
    rw [Lib.indexByte]
    split
    · omega
    · split
      · omega
      · omega

theorem indexByte_pos (l : List UInt8) (c : UInt8) : (0 ≤ Lib.indexByte l c) ↔ l.contains c = true := by
  induction l with
  | nil => simp [Lib.indexByte]
  | cons a l ih =>
    have hg := indexByte_ge l c; rw [Lib.indexByte, List.contains_cons]
    by_cases h : a = c
    · subst h; simp
    · have h1 : (a == c) = false := by simpa using h
      have h2 : (c == a) = false := by simpa using fun e => h e.symm
      rw [h1, h2]; simp only [Bool.false_eq_true, if_false, Bool.false_or]; rw [← ih]
      by_cases hi : Lib.indexByte l c = -1
      · simp [hi]
      · have : (Lib.indexByte l c == -1) = false := by simpa using hi
        rw [this]; simp only [Bool.false_eq_true, if_false]
        omega

theorem signs_data : (⟨#[61, 35, 60, 62, 43, 45, 42, 38, 126, 40, 41, 91, 93, 123, 125, 44, 59, 58, 46, 94]⟩ : ByteArray).data.toList = signs := rfl

theorem take_head (s : ByteArray) (h : 0 < s.size) : s.data.toList.headD 0 = s[0] ∧ s.data.toList.take 1 = [s[0]] := by
  have := drop_at s 0 h; simp only [List.drop_zero] at this; rw [this]; simp

theorem starts_short {l : List UInt8} {a b : UInt8} (h : l.length < 2) : starts l a b = false := by
  unfold starts
  rw [beq_eq_false_iff_ne]; intro e; have := congrArg List.length e; simp only [List.length_take, List.length_cons, List.length_nil] at this
  omega

set_option maxHeartbeats 1000000 in
theorem sign_any (s : ByteArray) (w : World) (hs : s.size ≤ maxLen) (h0 : 0 < s.size) :
    Calls Tryz.prog 82 #[.string s] w fun e w' => ∃ x : ByteArray, e = .returned (.string x) ∧ x.data.toList = signOf s.data.toList ∧ w' = w := by
  unfold maxLen at hs
  obtain ⟨hh, ht⟩ := take_head s h0
  have key : (starts s.data.toList 58 61 || starts s.data.toList 60 61 || starts s.data.toList 62 61) = false → (signOf s.data.toList = if signs.contains s[0] then [s[0]] else []) := by
    intro h
    unfold signOf
    rw [h, hh, ht]
    simp
  have hone : (s.extract 0 1).data.toList = [s[0]] := by rw [bs_take, ht]
  by_cases h2 : 1 < s.size
  · cases e1 : starts s.data.toList 58 61
    · cases e2 : starts s.data.toList 60 61
      · cases e3 : starts s.data.toList 62 61
        · have key2 := key (by simp [e1, e2, e3])
          rw [← starts_is] at e1 e2 e3; cases hc : signs.contains s[0]
          · have key2 : signOf s.data.toList = [] := by rw [key2, hc]; rfl
            have hn : ¬ (0 : Int) ≤ Lib.indexByte signs s[0] := by rw [indexByte_pos, hc]; simp
            have K := hide key2; clear key key2 hh ht hone hc
            go_enter Tryz.func82, Tryz.ntmps82
            go_wp2_with (go_at_call 105; refine (ib_any _ _ _).mono ?_; rintro e w' ⟨rfl, rfl⟩; rw [signs_data])
            go_ret
            exact ⟨_, rfl, by rw [K.out], rfl⟩
          · have key2 : signOf s.data.toList = [s[0]] := by rw [key2, hc]; rfl
            have hn : (0 : Int) ≤ Lib.indexByte signs s[0] := by rw [indexByte_pos, hc]
            have K := hide key2; have K1 := hide hone; clear key key2 hh ht hone hc
            go_enter Tryz.func82, Tryz.ntmps82
            go_wp2_with (go_at_call 105; refine (ib_any _ _ _).mono ?_; rintro e w' ⟨rfl, rfl⟩; rw [signs_data])
            go_ret
            exact ⟨_, rfl, by rw [K.out]; exact K1.out, rfl⟩
        · have K : Hid (signOf s.data.toList = s.data.toList.take 2) := by unfold signOf; rw [if_pos (by simp [e1, e2, e3])]; rfl
          rw [← starts_is] at e1 e2 e3; clear key hh ht hone
          go_enter Tryz.func82, Tryz.ntmps82
          go_wp2
          go_ret
          exact ⟨_, rfl, by rw [K.out]; exact bs_take _ _, rfl⟩
      · have K : Hid (signOf s.data.toList = s.data.toList.take 2) := by unfold signOf; rw [if_pos (by simp [e1, e2])]; rfl
        rw [← starts_is] at e1 e2; clear key hh ht hone
        go_enter Tryz.func82, Tryz.ntmps82
        go_wp2
        go_ret
        exact ⟨_, rfl, by rw [K.out]; exact bs_take _ _, rfl⟩
    · have K : Hid (signOf s.data.toList = s.data.toList.take 2) := by unfold signOf; rw [if_pos (by simp [e1])]; rfl
      rw [← starts_is] at e1; clear key hh ht hone
      go_enter Tryz.func82, Tryz.ntmps82
      go_wp2
      go_ret
      exact ⟨_, rfl, by rw [K.out]; exact bs_take _ _, rfl⟩
  · have hl : s.data.toList.length < 2 := by rw [← bs_size]; omega
    have key2 := key (by simp [starts_short hl]); cases hc : signs.contains s[0]
    · have key2 : signOf s.data.toList = [] := by rw [key2, hc]; rfl
      have hn : ¬ (0 : Int) ≤ Lib.indexByte signs s[0] := by rw [indexByte_pos, hc]; simp
      have K := hide key2; clear key key2 hh ht hone hc hl
      go_enter Tryz.func82, Tryz.ntmps82
      go_wp2_with (go_at_call 105; refine (ib_any _ _ _).mono ?_; rintro e w' ⟨rfl, rfl⟩; rw [signs_data])
      go_ret
      exact ⟨_, rfl, by rw [K.out], rfl⟩
    · have key2 : signOf s.data.toList = [s[0]] := by rw [key2, hc]; rfl
      have hn : (0 : Int) ≤ Lib.indexByte signs s[0] := by rw [indexByte_pos, hc]
      have K := hide key2; have K1 := hide hone; clear key key2 hh ht hone hc hl
      go_enter Tryz.func82, Tryz.ntmps82
      go_wp2_with (go_at_call 105; refine (ib_any _ _ _).mono ?_; rintro e w' ⟨rfl, rfl⟩; rw [signs_data])
      go_ret
      exact ⟨_, rfl, by rw [K.out]; exact K1.out, rfl⟩

end Go.Proofs.YtbphiiaoncakfaaGreatDoor

/- The scanner as it lies in memory, a comment that is skipped, and all that is skipped ahead of a word. -/
namespace Go.Proofs.YtbphiiaoncakfaaGreatDoor
open Go.RowKit

/-- Block b is a scanner of the text s that stands at byte k. -/
structure Sc (w : World) (b : Nat) (s : ByteArray) (k : Nat) : Prop where
  c0 : w.cell? ⟨b, 0, none⟩ = some (.string s)
  c1 : w.cell? ⟨b, 1, none⟩ = some (.int .i64 k)
  f1 : w.frozen? ⟨b, 1, none⟩ = false

def atOf (w : World) (b : Nat) : Nat := match w.cell? ⟨b, 1, none⟩ with | some v => (intOf v).toNat | none => 0

theorem Sc.atOf {w : World} {b : Nat} {s : ByteArray} {k : Nat} (h : Sc w b s k) : atOf w b = k := by
  unfold Proofs.YtbphiiaoncakfaaGreatDoor.atOf; rw [h.c1]; rfl

theorem Sc.drewN {w : World} {b : Nat} {s : ByteArray} {k : Nat} (h : Sc w b s k) (n : Nat) : Sc (w.drewN n) b s k := ⟨by simpa using h.c0, by simpa using h.c1, by simpa using h.f1⟩

theorem Sc.set {w : World} {b : Nat} {s : ByteArray} {k : Nat} (h : Sc w b s k) (k' : Nat) : Sc (w.setCell ⟨b, 1, none⟩ (.int .i64 k')) b s k' :=
  ⟨by rw [World.cell?_setCell_other _ _ _ _ (by simp)]; exact h.c0, World.cell?_setCell_same _ _ _ h.c1, by rw [World.frozen?_setCell]; exact h.f1⟩

theorem Sc.setI {w : World} {b : Nat} {s : ByteArray} {k : Nat} (h : Sc w b s k) (v : Int) (k' : Nat) (hv : v = k') : Sc (w.setCell ⟨b, 1, none⟩ (.int .i64 v)) b s k' := by
  subst hv; exact h.set k'

theorem Sc.lt {w : World} {b : Nat} {s : ByteArray} {k : Nat} (h : Sc w b s k) : b < w.heap.size := by
  rcases Nat.lt_or_ge b w.heap.size with h' | h'
  · exact h'
  · have := h.c0
    simp [World.cell?, Array.getElem?_eq_none h'] at this

theorem Sc.kept {w w' : World} {b : Nat} {s : ByteArray} {k : Nat} {row : Option Nat} (h : Sc w b s k) (hg : w.grownBy w' row) (hr : row ≠ some b) : Sc w' b s k :=
  ⟨by rw [World.cell?_of_block (w := w) (hg.block b h.lt (fun e => hr e.symm))]; exact h.c0,
   by rw [World.cell?_of_block (w := w) (hg.block b h.lt (fun e => hr e.symm))]; exact h.c1,
   by rw [World.frozen?_of_block (w := w) (hg.block b h.lt (fun e => hr e.symm))]; exact h.f1⟩

theorem gb_refl (w : World) (row : Option Nat) : w.grownBy w row := ⟨rfl, rfl, rfl, Nat.le_refl _, fun _ _ _ => rfl⟩
theorem gb_drewN {a w : World} {row : Option Nat} (h : a.grownBy w row) (n : Nat) : a.grownBy (w.drewN n) row := ⟨h.os, h.tape, h.output, h.size, h.block⟩
theorem gb_trans {a b c : World} {row : Option Nat} (h : a.grownBy b row) (k : b.grownBy c row) : a.grownBy c row :=
  ⟨k.os.trans h.os, k.tape.trans h.tape, k.output.trans h.output, Nat.le_trans h.size k.size, fun i hi hr => (k.block i (Nat.lt_of_lt_of_le hi h.size) hr).trans (h.block i hi hr)⟩
theorem gb_set {a w : World} {b : Nat} (h : a.grownBy w (some b)) (o : Nat) (v : Value) : a.grownBy (w.setCell ⟨b, o, none⟩ v) (some b) :=
  gb_trans h ⟨rfl, rfl, rfl, by simp [World.setCell], fun i _ hr => Below.heap_setCell _ _ _ _ (fun e => hr (by rw [e]))⟩
theorem gb_alloc {a w : World} {row : Option Nat} (h : a.grownBy w row) (o : Obj) : a.grownBy (w.alloc o) row := gb_trans h (World.grownBy_alloc w o row)
theorem gb_some {a w : World} (h : a.grownBy w none) (row : Option Nat) : a.grownBy w row := ⟨h.os, h.tape, h.output, h.size, fun i hi _ => h.block i hi (by simp)⟩

/-- A fault at byte k with error number n was thrown; it lies in a new block. -/
def Threw (w : World) (k n : Int) (e : Ending) (w' : World) : Prop :=
  ∃ q, e = .panicked [{ v := .iface 49 (.pointer (some ⟨q, 0, none⟩)), recovered := false }] ∧ w.heap.size ≤ q ∧
    w'.cell? ⟨q, 0, none⟩ = some (.int .i64 0) ∧ w'.cell? ⟨q, 1, none⟩ = some (.int .i64 k) ∧ w'.cell? ⟨q, 2, none⟩ = some (.iface 26 (.int .i64 n))

theorem threw_new {w wr : World} {nq : Nat} {k n : Int} (h : w.heap.size ≤ wr.heap.size) :
    Threw w k n (.panicked [{ v := .iface 49 (.pointer (some ⟨wr.heap.size, 0, none⟩)), recovered := false }]) ((wr.drewN nq).alloc (.cells #[.int .i64 0, .int .i64 k, .iface 26 (.int .i64 n)] 78)) :=
  ⟨wr.heap.size, rfl, h, by rw [World.cell?_alloc_at _ _ _ _ (by simp)]; rfl, by rw [World.cell?_alloc_at _ _ _ _ (by simp)]; rfl, by rw [World.cell?_alloc_at _ _ _ _ (by simp)]; rfl⟩

theorem cmt_hit {d : Nat} {r : List UInt8} (h : starts r 40 42 = true) : cmt d r = cmt (d + 1) (r.drop 2) := by
  match r, h with
  | [], h => simp [starts] at h
  | [a], h => simp [starts] at h
  | a :: b :: r, h =>
    simp [starts] at h
    rw [cmt_two, if_pos h]; rfl
theorem cmt_end {d : Nat} {r : List UInt8} (h1 : starts r 40 42 = false) (h : starts r 42 41 = true) : cmt d r = if d ≤ 1 then some (r.drop 2) else cmt (d - 1) (r.drop 2) := by
  match r, h with
  | [], h => simp [starts] at h
  | [a], h => simp [starts] at h
  | a :: b :: r, h =>
    simp [starts] at h h1
    rw [cmt_two, if_neg (by intro e; exact h1 e.1 e.2), if_pos h]; rfl
theorem cmt_on {d : Nat} {r : List UInt8} (h1 : starts r 40 42 = false) (h : starts r 42 41 = false) : cmt d r = cmt d (r.drop 1) := by
  match r with
  | [] => rfl
  | [a] => simp [cmt]
  | a :: b :: r =>
    simp [starts] at h h1
    rw [cmt_two, if_neg (by intro e; exact h1 e.1 e.2), if_neg (by intro e; exact h e.1 e.2)]; rfl

theorem starts_len {r : List UInt8} {a b : UInt8} (h : starts r a b = true) : 2 ≤ r.length := by
  match r, h with
  | [], h => simp [starts] at h
  | [a], h => simp [starts] at h
  | a :: b :: r, h => simp

set_option maxRecDepth 1000000 in
set_option maxHeartbeats 1000000 in
theorem comment_any (b : Nat) (s : ByteArray) (k0 : Nat) (w : World) (hs : s.size ≤ 1000000000) (hk0 : k0 ≤ s.size) (hsc : Sc w b s k0) (hst : starts (s.data.toList.drop k0) 40 42 = true) :
    Calls Tryz.prog 75 #[.pointer (some ⟨b, 0, none⟩)] w fun e w' =>
      (∀ r', cmt 0 (s.data.toList.drop k0) = some r' → e = .returned (.tuple #[]) ∧ Sc w' b s (s.size - r'.length) ∧ w.grownBy w' (some b)) ∧
      (cmt 0 (s.data.toList.drop k0) = none → Threw w k0 2 e w' ∧ w.grownBy w' (some b)) := by
  have c0 := hsc.c0; have c1 := hsc.c1; have HST := hide hst; clear hst
  go_enter Tryz.func75, Tryz.ntmps75
  go_wp2; clear c0 c1
  go_loopw [3] (fun d wr => ∃ dn k : Nat, d = .int .i64 dn ∧ k ≤ s.size ∧ Sc wr b s k ∧ w.grownBy wr (some b) ∧ Hid (cmt dn (s.data.toList.drop k) = cmt 0 (s.data.toList.drop k0)) ∧ (dn = 0 → k = k0) ∧ dn ≤ k) (fun _ wr => s.size - atOf wr b)
  case atStart => exact ⟨0, k0, rfl, hk0, hsc, gb_refl _ _, rfl, fun _ => rfl, Nat.zero_le _⟩
  case round =>
    obtain ⟨dn, k, rfl, hk, hsr, hgr, HC, HZ, hdk⟩ := hrel; have c0 := hsr.c0; have c1 := hsr.c1; have f1 := hsr.f1; have HZ' := hide HZ; clear HZ
    have hxs : (s.extract k s.size).size ≤ maxLen := by unfold maxLen; rw [bs_size, bs_drop, List.length_drop, ← bs_size]; omega
    have hsm : s.size ≤ maxLen := by unfold maxLen; omega
    have hea := hsr.atOf; have HSR := hide hsr; have HGR := hide hgr; clear hsr hgr
    by_cases hlt : k < s.size
    · cases h1 : starts (s.data.toList.drop k) 40 42
      · have hd1 : 1 ≤ dn := by
          rcases Nat.eq_zero_or_pos dn with h | h
          · rw [unhide HZ' h, HST.out] at h1; cases h1
          · exact h
        cases h3 : starts (s.data.toList.drop k) 42 41
        · have HN : Hid (cmt dn (s.data.toList.drop (k + 1)) = cmt 0 (s.data.toList.drop k0)) := by
            rw [← HC.out, cmt_on h1 h3, List.drop_drop]; rfl
          have hz : ((dn : Int) == 0) = false := by rw [beq_eq_false_iff_ne]; omega
          go_wp2_with fail
          go_quiet (fail)
          go_wp2_with (first | (go_at_call 74; refine (rest_any b s k _ hsm hk (by simpa using c0) (by simpa using c1)).mono ?_; rintro e w' ⟨rfl, nr, rfl⟩) | (go_at_call 73; refine (hp_any _ _ _ _ hxs).mono ?_; rintro e w' ⟨rfl, rfl⟩; simp only [bs_drop, h1, h3]))
          all_goals
            have hS := fun n => (HSR.out.drewN n).setI ((k : Int) + 1) (k + 1) (by omega)
            exact ⟨⟨dn, k + 1, rfl, by omega, hS _, gb_set (gb_drewN HGR.out _) _ _, HN, fun e => by omega, by omega⟩, by rw [(hS _).atOf, hea]; omega⟩
        · have h2 := starts_len h3
          rw [List.length_drop, ← bs_size] at h2
          by_cases hd2 : dn = 1
          · have HN : Hid (cmt 0 (s.data.toList.drop k0) = some (s.data.toList.drop (k + 2))) := by
              rw [← HC.out, cmt_end h1 h3, if_pos (by omega), List.drop_drop]; rfl
            have hz : ((dn : Int) - 1 == 0) = true := by rw [beq_iff_eq]; omega
            clear hd2; go_wp2_with fail
            go_quiet (fail)
            go_wp2_with (first | (go_at_call 74; refine (rest_any b s k _ hsm hk (by simpa using c0) (by simpa using c1)).mono ?_; rintro e w' ⟨rfl, nr, rfl⟩) | (go_at_call 73; refine (hp_any _ _ _ _ hxs).mono ?_; rintro e w' ⟨rfl, rfl⟩; simp only [bs_drop, h1, h3]))
            have hS := fun n => (HSR.out.drewN n).setI ((k : Int) + 2) (k + 2) (by omega)
            refine bodyPost_ret (results_none rfl _ _ _) rfl ⟨fun r' hr => ?_, fun hr => ?_⟩
            · rw [HN.out] at hr
              cases hr; refine ⟨rfl, ?_, gb_set (gb_drewN HGR.out _) _ _⟩; rw [List.length_drop, ← bs_size, show s.size - (s.size - (k + 2)) = k + 2 from by omega]
              exact hS _
            · rw [HN.out] at hr; cases hr
          · have HN : Hid (cmt (dn - 1) (s.data.toList.drop (k + 2)) = cmt 0 (s.data.toList.drop k0)) := by
              rw [← HC.out, cmt_end h1 h3, if_neg (by omega), List.drop_drop]; rfl
            have hz : ((dn : Int) - 1 == 0) = false := by rw [beq_eq_false_iff_ne]; omega
            have hd3 : 2 ≤ dn := by omega
            clear hd2; go_wp2_with fail
            go_quiet (fail)
            go_wp2_with (first | (go_at_call 74; refine (rest_any b s k _ hsm hk (by simpa using c0) (by simpa using c1)).mono ?_; rintro e w' ⟨rfl, nr, rfl⟩) | (go_at_call 73; refine (hp_any _ _ _ _ hxs).mono ?_; rintro e w' ⟨rfl, rfl⟩; simp only [bs_drop, h1, h3]))
            have hS := fun n => (HSR.out.drewN n).setI ((k : Int) + 2) (k + 2) (by omega)
            exact ⟨⟨dn - 1, k + 2, by rw [show ((dn : Int) - 1) = ((dn - 1 : Nat) : Int) from by omega], by omega, hS _, gb_set (gb_drewN HGR.out _) _ _, HN, fun e => by omega, by omega⟩, by rw [(hS _).atOf, hea]; omega⟩
      · have h2 := starts_len h1
        rw [List.length_drop, ← bs_size] at h2
        have HN : Hid (cmt (dn + 1) (s.data.toList.drop (k + 2)) = cmt 0 (s.data.toList.drop k0)) := by
          rw [← HC.out, cmt_hit h1, List.drop_drop]; rfl
        have hz : ((dn : Int) + 1 == 0) = false := by rw [beq_eq_false_iff_ne]; omega
        go_wp2_with fail
        go_quiet (fail)
        go_wp2_with (first | (go_at_call 74; refine (rest_any b s k _ hsm hk (by simpa using c0) (by simpa using c1)).mono ?_; rintro e w' ⟨rfl, nr, rfl⟩) | (go_at_call 73; refine (hp_any _ _ _ _ hxs).mono ?_; rintro e w' ⟨rfl, rfl⟩; simp only [bs_drop, h1]))
        have hS := fun n => (HSR.out.drewN n).setI ((k : Int) + 2) (k + 2) (by omega)
        exact ⟨⟨dn + 1, k + 2, by go_num, by omega, hS _, gb_set (gb_drewN HGR.out _) _ _, HN, fun e => by omega, by omega⟩, by rw [(hS _).atOf, hea]; omega⟩
    · have HN : Hid (cmt 0 (s.data.toList.drop k0) = none) := by
        rw [← HC.out, List.drop_eq_nil_of_le (by rw [← bs_size]; omega), cmt_nil]; rfl
      go_wp2_with fail
      go_quiet (fail)
      go_wp2_with (go_at_call 79; refine (throw_any _ _ _ _).mono ?_; rintro e w' ⟨rfl, rfl⟩)
      refine ⟨rfl, fun r' hr => ?_, fun _ => ⟨threw_new HGR.out.size, gb_alloc (gb_drewN HGR.out _) _⟩⟩; rw [HN.out] at hr; cases hr

end Go.Proofs.YtbphiiaoncakfaaGreatDoor

/- All that is skipped ahead of a word: blanks and comments. -/
namespace Go.Proofs.YtbphiiaoncakfaaGreatDoor
open Go.RowKit

theorem skp_len {r r' : List UInt8} (h : skp r = .ok r') : r'.length ≤ r.length := by
  obtain ⟨p, hp⟩ := skp_suffix h; rw [hp]; simp

theorem drop_of_suffix {l p r : List UInt8} {k : Nat} (h : l.drop k = p ++ r) (hk : k ≤ l.length) : l.drop (l.length - r.length) = r := by
  have hl : l.length = k + p.length + r.length := by
    have := congrArg List.length h; simp only [List.length_drop, List.length_append] at this
    omega
  rw [show l.length - r.length = k + p.length from by omega, ← List.drop_drop, h, List.drop_left]

set_option maxRecDepth 1000000 in
set_option maxHeartbeats 2000000 in
theorem skip_any (b : Nat) (s : ByteArray) (k0 : Nat) (w : World) (hs : s.size ≤ 1000000000) (hk0 : k0 ≤ s.size) (hsc : Sc w b s k0) :
    Calls Tryz.prog 47 #[.pointer (some ⟨b, 0, none⟩)] w fun e w' =>
      (∀ r', skp (s.data.toList.drop k0) = .ok r' → e = .returned (.tuple #[]) ∧ Sc w' b s (s.size - r'.length) ∧ w.grownBy w' (some b)) ∧
      (∀ f, skp (s.data.toList.drop k0) = .error f → Threw w ((s.size - f.length : Nat) : Int) 2 e w' ∧ w.grownBy w' (some b)) := by
  go_enter Tryz.func47, Tryz.ntmps47
  go_wp2
  go_loopw [12] (fun _ wr => ∃ k : Nat, k ≤ s.size ∧ Sc wr b s k ∧ w.grownBy wr (some b) ∧ Hid (skp (s.data.toList.drop k) = skp (s.data.toList.drop k0))) (fun _ wr => s.size - atOf wr b)
  case atStart => exact ⟨k0, hk0, hsc, gb_refl _ _, rfl⟩
  case round =>
    obtain ⟨k, hk, hsr, hgr, HC⟩ := hrel; have c0 := hsr.c0; have c1 := hsr.c1; have f1 := hsr.f1
    have hxs : (s.extract k s.size).size ≤ maxLen := by unfold maxLen; rw [bs_size, bs_drop, List.length_drop, ← bs_size]; omega
    have hsm : s.size ≤ maxLen := by unfold maxLen; omega
    have hea := hsr.atOf; have HSR := hide hsr; have HGR := hide hgr; clear hsr hgr
    by_cases hlt : k < s.size
    · have hdr := drop_at s k hlt
      cases hb : isBlank (s[k]'hlt).toNat
      · cases h1 : starts (s.data.toList.drop k) 40 42
        · have HN : Hid (skp (s.data.toList.drop k0) = .ok (s.data.toList.drop k)) := by
            rw [← HC.out]; rw [hdr] at h1 ⊢; exact skp_word hb h1
          clear hdr HC; go_wp2_with fail
          go_quiet (fail)
          obtain ⟨w1, hw1⟩ : ∃ w1, w1 = wr.drewN nq := ⟨_, rfl⟩; rw [← hw1]
          have hs1 : Sc w1 b s k := by rw [hw1]; exact HSR.out.drewN nq
          have hg1 : w.grownBy w1 (some b) := by rw [hw1]; exact gb_drewN HGR.out nq
          clear c0 c1 f1; have c0 := hs1.c0; have c1 := hs1.c1; have f1 := hs1.f1; have HS1 := hide hs1; have HG1 := hide hg1; clear hw1 hs1 hg1 HSR HGR; go_wp2_with fail
          go_quiet ((go_at_call 72; exact Calls.quiet_of_same (blank_any _ _)))
          simp only [hb]
          go_wp2_with (first | (go_at_call 74; refine (rest_any b s k _ hsm hk (by simpa using c0) (by simpa using c1)).mono ?_; rintro e w' ⟨rfl, nr, rfl⟩) | (go_at_call 73; refine (hp_any _ _ _ _ hxs).mono ?_; rintro e w' ⟨rfl, rfl⟩; simp only [bs_drop, h1]))
          refine bodyPost_ret (results_none rfl _ _ _) rfl ⟨fun r' hr => ?_, fun f hf => ?_⟩
          · rw [HN.out] at hr
            cases hr; refine ⟨rfl, ?_, gb_drewN HG1.out _⟩; rw [List.length_drop, ← bs_size, show s.size - (s.size - k) = k from by omega]
            exact HS1.out.drewN _
          · rw [HN.out] at hf; cases hf
        · cases hcm : cmt 0 (s.data.toList.drop k) with
          | none =>
            have HN : Hid (skp (s.data.toList.drop k0) = .error (s.data.toList.drop k)) := by
              rw [← HC.out]; rw [hdr] at h1 hcm ⊢; exact skp_open hb h1 hcm
            have HM := hide hcm; have H1 := hide h1; clear hdr HC hcm; go_wp2_with fail
            go_quiet (fail)
            obtain ⟨w1, hw1⟩ : ∃ w1, w1 = wr.drewN nq := ⟨_, rfl⟩; rw [← hw1]
            have hs1 : Sc w1 b s k := by rw [hw1]; exact HSR.out.drewN nq
            have hg1 : w.grownBy w1 (some b) := by rw [hw1]; exact gb_drewN HGR.out nq
            clear c0 c1 f1; have c0 := hs1.c0; have c1 := hs1.c1; have f1 := hs1.f1; have HS1 := hide hs1; have HG1 := hide hg1; clear hw1 hs1 hg1 HSR HGR; go_wp2_with fail
            go_quiet ((go_at_call 72; exact Calls.quiet_of_same (blank_any _ _)))
            simp only [hb]
            go_wp2_with (first | (go_at_call 74; refine (rest_any b s k _ hsm hk (by simpa using c0) (by simpa using c1)).mono ?_; rintro e w' ⟨rfl, nr, rfl⟩) | (go_at_call 73; refine (hp_any _ _ _ _ hxs).mono ?_; rintro e w' ⟨rfl, rfl⟩; simp only [bs_drop, h1]) | (go_at_call 75; refine (comment_any b s k _ hs hk (HS1.out.drewN _) H1.out).mono ?_; rintro e w' ⟨hA, hB⟩; obtain ⟨⟨q, rfl, hq, q0, q1, q2⟩, hG2⟩ := hB HM.out))
            refine ⟨rfl, fun r' hr => ?_, fun f hf => ?_⟩
            · rw [HN.out] at hr; cases hr
            · rw [HN.out] at hf
              cases hf; refine ⟨⟨q, rfl, Nat.le_trans (gb_drewN HG1.out _).size hq, q0, ?_, q2⟩, gb_trans (gb_drewN HG1.out _) hG2⟩; rw [List.length_drop, ← bs_size, show s.size - (s.size - k) = k from by omega]
              exact q1
          | some r1 =>
            have HN : Hid (skp r1 = skp (s.data.toList.drop k0)) := by
              rw [← HC.out]; rw [hdr] at h1 hcm ⊢; exact (skp_shut hb h1 hcm).symm
            obtain ⟨p, hp, hp2⟩ := cmt_suffix' hcm; have hd2 := drop_of_suffix hp (by rw [← bs_size]; exact hk); rw [← bs_size] at hd2
            have hl1 : s.size - k = p.length + r1.length := by rw [bs_size, ← List.length_drop, hp, List.length_append]
            have HM := hide hcm; have H1 := hide h1; have HD2 := hide hd2; clear hdr HC hcm hp hd2; go_wp2_with fail
            go_quiet (fail)
            obtain ⟨w1, hw1⟩ : ∃ w1, w1 = wr.drewN nq := ⟨_, rfl⟩; rw [← hw1]
            have hs1 : Sc w1 b s k := by rw [hw1]; exact HSR.out.drewN nq
            have hg1 : w.grownBy w1 (some b) := by rw [hw1]; exact gb_drewN HGR.out nq
            clear c0 c1 f1; have c0 := hs1.c0; have c1 := hs1.c1; have f1 := hs1.f1; have HS1 := hide hs1; have HG1 := hide hg1; clear hw1 hs1 hg1 HSR HGR; go_wp2_with fail
            go_quiet ((go_at_call 72; exact Calls.quiet_of_same (blank_any _ _)))
            simp only [hb]
            go_wp2_with (first | (go_at_call 74; refine (rest_any b s k _ hsm hk (by simpa using c0) (by simpa using c1)).mono ?_; rintro e w' ⟨rfl, nr, rfl⟩) | (go_at_call 73; refine (hp_any _ _ _ _ hxs).mono ?_; rintro e w' ⟨rfl, rfl⟩; simp only [bs_drop, h1]) | (go_at_call 75; refine (comment_any b s k _ hs hk (HS1.out.drewN _) H1.out).mono ?_; rintro e w' ⟨hA, hB⟩; obtain ⟨rfl, hS2, hG2⟩ := hA _ HM.out))
            exact ⟨⟨s.size - r1.length, by omega, hS2, gb_trans (gb_drewN HG1.out _) hG2, by rw [HD2.out]; exact HN⟩, by rw [hS2.atOf, hea]; omega⟩
      · have HN : Hid (skp (s.data.toList.drop (k + 1)) = skp (s.data.toList.drop k0)) := by
          rw [← HC.out, hdr]; exact (skp_blank hb).symm
        clear hdr HC; go_wp2_with fail
        go_quiet (fail)
        obtain ⟨w1, hw1⟩ : ∃ w1, w1 = wr.drewN nq := ⟨_, rfl⟩; rw [← hw1]
        have hs1 : Sc w1 b s k := by rw [hw1]; exact HSR.out.drewN nq
        have hg1 : w.grownBy w1 (some b) := by rw [hw1]; exact gb_drewN HGR.out nq
        clear c0 c1 f1; have c0 := hs1.c0; have c1 := hs1.c1; have f1 := hs1.f1; have HS1 := hide hs1; have HG1 := hide hg1; clear hw1 hs1 hg1 HSR HGR; go_wp2_with fail
        go_quiet ((go_at_call 72; exact Calls.quiet_of_same (blank_any _ _)))
        simp only [hb]; go_wp2
        have hS := fun n => (HS1.out.drewN n).setI ((k : Int) + 1) (k + 1) (by omega)
        exact ⟨⟨k + 1, by omega, hS _, gb_set (gb_drewN HG1.out _) _ _, HN⟩, by rw [(hS _).atOf, hea]; omega⟩
    · have HN : Hid (skp (s.data.toList.drop k0) = .ok []) := by
        rw [← HC.out, List.drop_eq_nil_of_le (by rw [← bs_size]; omega)]; rfl
      clear HC; go_wp2_with fail
      go_quiet (fail)
      go_wp2
      first | go_end0 | refine bodyPost_end (results_none rfl _ _ _) rfl ?_
      refine ⟨fun r' hr => ?_, fun f hf => ?_⟩
      · rw [HN.out] at hr
        cases hr; refine ⟨rfl, ?_, gb_drewN HGR.out _⟩
        have : s.size - ([] : List UInt8).length = k := by simp; omega
        rw [this]
        exact HSR.out.drewN _
      · rw [HN.out] at hf; cases hf

end Go.Proofs.YtbphiiaoncakfaaGreatDoor
