/- The document's trees (B1 to B4),told as functions of the place in a list of words: what is read,and where reading goes on; or what is wrong,and where. -/
import Derived.Test.YtnmkffjklpfflaaGreatDoorG01
import Derived.Test.YtnmkffjklpfflaaGreatDoorG03
namespace Go.Proofs.YtnmkffjklpfflaaGreatDoor
def rN : List UInt8 := [77,79,68,85,76,69]
def rD : List UInt8 := [73,77,80,79,82,84]
def oP : List UInt8 := [67,79,78,83,84]
def mt : List UInt8 := [84,89,80,69]
def pG : List UInt8 := [86,65,82]
def xo : List UInt8 := [80,82,79,67,69,68,85,82,69]
def jG : List UInt8 := [66,69,71,73,78]
def jB : List UInt8 := [69,78,68]
def kIF : List UInt8 := [73,70]
def mz : List UInt8 := [84,72,69,78]
def kA : List UInt8 := [69,76,83,73,70]
def tY : List UInt8 := [69,76,83,69]
def gc : List UInt8 := [87,72,73,76,69]
def kDO : List UInt8 := [68,79]
def jX : List UInt8 := [82,69,80,69,65,84]
def dx : List UInt8 := [85,78,84,73,76]
def kb : List UInt8 := [82,69,84,85,82,78]
def qX : List UInt8 := [65,82,82,65,89]
def kOF : List UInt8 := [79,70]
def jV : List UInt8 := [82,69,67,79,82,68]
def ji : List UInt8 := [80,79,73,78,84,69,82]
def kTO : List UInt8 := [84,79]
def oV : List UInt8 := [78,73,76]
def tR : List UInt8 := [84,82,85,69]
def qQ : List UInt8 := [70,65,76,83,69]
def lq : List UInt8 := [68,73,86]
def ls : List UInt8 := [77,79,68]
def kOR : List UInt8 := [79,82]
def kIS : List UInt8 := [73,83]
def pe : List UInt8 := [78,69,87]
def pH : List UInt8 := [79,85,84]
def pO : List UInt8 := [71,69,84]
def jo : List UInt8 := [65,83,83,69,82,84]
def fe : List UInt8 := [61]
def oG : List UInt8 := [35]
def lf : List UInt8 := [60]
def lw : List UInt8 := [62]
def lg : List UInt8 := [60,61]
def ll : List UInt8 := [62,61]
def ot : List UInt8 := [43]
def qL : List UInt8 := [45]
def gt : List UInt8 := [42]
def mv : List UInt8 := [38]
def xU : List UInt8 := [126]
def xy : List UInt8 := [40]
def jk : List UInt8 := [41]
def pf : List UInt8 := [91]
def mA : List UInt8 := [93]
def mg : List UInt8 := [123]
def mV : List UInt8 := [125]
def qx : List UInt8 := [44]
def yy : List UInt8 := [59]
def qE : List UInt8 := [58]
def jv : List UInt8 := [46]
def fM : List UInt8 := [94]
def kJ : List UInt8 := [58,61]
inductive T where
 | mk (kind : Int) (name : List UInt8) (num at' : Int) (subs : List T)
def T.at' : T -> Int
 | .mk _ _ _ a _ => a
abbrev Tok := List UInt8 × Int
def wd (L : List Tok) (i : Nat) : List UInt8 := (L[i]?.getD ([],0)).1
def pos (L : List Tok) (i : Nat) : Int := (L[i]?.getD ([],0)).2
abbrev P (α : Type) := Nat -> Except (Int × Int) (α × Nat)
def P.bind {α β : Type} (p : P α) (k : α -> P β) : P β := fun i => match p i with
 | .error e => .error e
 | .ok (a,j) => k a j
def P.ret {α : Type} (a : α) : P α := fun i => .ok (a,i)
def atP {α : Type} (g : Nat -> P α) : P α := fun i => g i i
theorem P.bind_ok {α β : Type} {p : P α} {k : α -> P β} {i j : Nat} {a : α} (h : p i = .ok (a,j)) : P.bind p k i = k a j := by unfold P.bind; rw [h]
theorem P.bind_err {α β : Type} {p : P α} {k : α -> P β} {i : Nat} {e : Int × Int} (h : p i = .error e) : P.bind p k i = .error e := by unfold P.bind; rw [h]
section
variable (L : List Tok)
def yi (i : Nat) : Int × Int := (if wd L i = [] then 2 else 4,pos L i)
def vi {α : Type} : P α := fun i => .error (3,pos L i)
def yu (w : List UInt8) : P Bool := fun i => if wd L i = w then .ok (true,i + 1) else .ok (false,i)
def zD (w : List UInt8) : P Unit := fun i => if wd L i = w then .ok ((),i + 1) else .error (yi L i)
def uj : P (List UInt8) := fun i => if yv (wd L i) = true then .ok (wd L i,i + 1) else .error (yi L i)
def oF (w : List UInt8) : Option Int := if w ≠ [] /\ zA ((w.headD 0).toNat : Int) = true then zX 0 w else none
def gZ : P Int := fun i => match oF (wd L i) with
 | some n => .ok (n,i + 1)
 | none => .error (yi L i)
def vh (kind : Int) : P T := atP fun i => (uj L).bind (fun s => P.ret (.mk kind s 0 (pos L i) []))
def nw (t : T) : P T := (yu L gt).bind fun b => P.ret (match t with | .mk k s n a l => if b then .mk k s 1 a l else .mk k s n a l)
def yT (kind : Int) : P T := (vh L kind).bind (nw L)
def xd (part : P T) (sep : List UInt8) : Nat -> List T -> P (List T)
 | 0,_ => fun _ => .error (0,0)
 | f + 1,acc => (yu L sep).bind fun b => if b then part.bind fun t => xd part sep f (acc ++ [t]) else P.ret acc
def vA (part : P T) (sep : List UInt8) : P (List T) := part.bind fun t => xd L part sep L.length [t]
def xr (part : P T) (sep : List UInt8) : P (List T) :=
 (zD L xy).bind fun _ => (yu L jk).bind fun b => if b then P.ret [] else (vA L part sep).bind fun l => (zD L jk).bind fun _ => P.ret l
def yf : P T := (vh L 13).bind fun n => (yu L jv).bind fun b => if b then (uj L).bind fun s2 => P.ret (match n with | .mk k s m a _ => .mk k s2 m a [.mk 24 s 0 a []]) else P.ret n
def jO (t : T) : P T := (zD L qE).bind fun _ => (yf L).bind fun y => P.ret (match t with | .mk k s n a _ => .mk k s n a [y])
def opT (sign : List UInt8) (left right : T) : T := .mk 36 sign 0 left.at' [left,right]
def yH (w : List UInt8) : Bool := w == jv || w == pf || w == fM || w == mg
def vw (E : P T) (of' : T) : P T := fun i =>
 if wd L i = jv then (uj L).bind (fun s => P.ret (.mk 25 s 0 of'.at' [of'])) (i + 1)
 else if wd L i = pf then E.bind (fun e => (zD L mA).bind fun _ => P.ret (.mk 26 [] 0 of'.at' [of',e])) (i + 1)
 else if wd L i = fM then .ok (.mk 27 [] 0 of'.at' [of'],i + 1)
 else (yf L).bind (fun y => (zD L mV).bind fun _ => P.ret (.mk 28 [] 0 of'.at' [of',y])) (i + 1)
def zQ (E : P T) : Nat -> T -> P T
 | 0,n => fun i => if yH (wd L i) = true then (vw L E n).bind (fun _ => vi L) i else .ok (n,i)
 | f + 1,n => fun i => if yH (wd L i) = true then (vw L E n).bind (fun n' => zQ E f n') i else .ok (n,i)
def zU (E : P T) : P T := (vh L 24).bind fun n => zQ L E 20 n
def jJ (E : P T) : P (List T) := xr L E qx
def yB (E : P T) : P T := (zU L E).bind fun n i => if wd L i = xy then (jJ L E).bind (fun l => P.ret (.mk 33 [] 0 n.at' (n :: l))) i else .ok (n,i)
def zJ (E F : P T) : P T := fun i =>
 if wd L i = tR then .ok (.mk 30 [] 0 (pos L i) [],i + 1)
 else if wd L i = qQ then .ok (.mk 31 [] 0 (pos L i) [],i + 1)
 else if wd L i = oV then .ok (.mk 32 [] 0 (pos L i) [],i + 1)
 else if wd L i = xU then F.bind (fun f => P.ret (.mk 34 [] 0 (pos L i) [f])) (i + 1)
 else if wd L i = xy then E.bind (fun e => (zD L jk).bind fun _ => P.ret e) (i + 1)
 else if yv (wd L i) = true then yB L E i
 else (gZ L).bind (fun n => P.ret (.mk 29 [] n (pos L i) [])) i
def xq (joins : List UInt8 -> Bool) (part : P T) : Nat -> T -> P T
 | 0,left => fun i => if joins (wd L i) = true then vi L (i + 1) else .ok (left,i)
 | f + 1,left => fun i => if joins (wd L i) = true then part.bind (fun r => xq joins part f (opT (wd L i) left r)) (i + 1) else .ok (left,i)
def tQ (w : List UInt8) : Bool := w == ot || w == qL || w == kOR
def vQ (w : List UInt8) : Bool := w == gt || w == lq || w == ls || w == mv
def vZ (w : List UInt8) : Bool := w == fe || w == oG || w == lf || w == lg || w == lw || w == ll
def xE (E F : P T) : P T := (zJ L E F).bind fun a => xq L vQ (zJ L E F) 20 a
def fs (E F : P T) : P T := atP fun i => (yu L qL).bind (fun b => (xE L E F).bind fun a => xq L tQ (xE L E F) 20 (if b then .mk 35 [] 0 (pos L i) [a] else a))
def xh (E F : P T) : P T := (fs L E F).bind fun a i =>
 if wd L i = kIS then (yf L).bind (fun y => P.ret (.mk 37 [] 0 a.at' [a,y])) (i + 1)
 else if vZ (wd L i) = true then (fs L E F).bind (fun b => P.ret (opT (wd L i) a b)) (i + 1)
 else .ok (a,i)
def xP : Nat -> P T × P T
 | 0 => (vi L,vi L)
 | n + 1 => (xh L (xP n).1 (xP n).2,zJ L (xP n).1 (xP n).2)
def uH (n : Nat) : P T := (xP L n).1
def xu (n : Nat) : P T := (xP L n).2
def xA (w : List UInt8) : Bool := w == yy || w == jB || w == kA || w == tY || w == dx || w == []
def vN (E A : P T) : P (List T) := E.bind fun c => (zD L mz).bind fun _ => A.bind fun a => P.ret [c,a]
def yG (E A : P T) : Nat -> List T -> P (List T)
 | 0,_ => fun _ => .error (0,0)
 | f + 1,acc => (yu L kA).bind fun b => if b then (vN L E A).bind fun l => yG E A f (acc ++ l) else P.ret acc
def yV (E A : P T) : P T := atP fun i => (zD L kIF).bind fun _ => (vN L E A).bind (fun l => (yG L E A L.length l).bind fun l => (yu L tY).bind fun b => if b then A.bind fun a => (zD L jB).bind fun _ => P.ret (.mk 16 [] 1 (pos L i) (l ++ [a])) else (zD L jB).bind fun _ => P.ret (.mk 16 [] 0 (pos L i) l))
def uP (E A : P T) : P T := atP fun i => (zD L gc).bind fun _ => E.bind (fun c => (zD L kDO).bind fun _ => A.bind fun a => (zD L jB).bind fun _ => P.ret (.mk 17 [] 0 (pos L i) [c,a]))
def uq (E A : P T) : P T := atP fun i => (zD L jX).bind fun _ => A.bind (fun a => (zD L dx).bind fun _ => E.bind fun c => P.ret (.mk 18 [] 0 (pos L i) [a,c]))
def uo (E : P T) : P T := atP fun i => (zD L kb).bind fun _ j => if xA (wd L j) = true then .ok (.mk 19 [] 0 (pos L i) [],j) else E.bind (fun e => P.ret (.mk 19 [] 0 (pos L i) [e])) j
def yK (kind : Int) (k : List UInt8) (part : P T) : P T := atP fun i => (zD L k).bind fun _ => (zD L xy).bind (fun _ => part.bind fun e => (zD L jk).bind fun _ => P.ret (.mk kind [] 0 (pos L i) [e]))
def xX (E : P T) : P T := atP fun i => (zU L E).bind (fun d j =>
 if wd L j = kJ then E.bind (fun e => P.ret (.mk 14 [] 0 (pos L i) [d,e])) (j + 1)
 else if wd L j = xy then (jJ L E).bind (fun l => P.ret (.mk 15 [] 0 (pos L i) (d :: l))) j
 else .ok (.mk 15 [] 0 (pos L i) [d],j))
def xp (E A : P T) : P T := fun i =>
 if wd L i = kIF then yV L E A i
 else if wd L i = gc then uP L E A i
 else if wd L i = jX then uq L E A i
 else if wd L i = kb then uo L E i
 else if wd L i = pe then yK L 20 pe (zU L E) i
 else if wd L i = pH then yK L 21 pH E i
 else if wd L i = pO then yK L 22 pO (zU L E) i
 else if wd L i = jo then yK L 23 jo E i
 else xX L E i
def yl (E A : P T) : Nat -> List T -> P (List T)
 | 0,_ => fun _ => .error (0,0)
 | f + 1,acc => fun i => (if xA (wd L i) = true then P.ret acc else (xp L E A).bind fun t => P.ret (acc ++ [t])).bind (fun acc => (yu L yy).bind fun b => if b then yl E A f acc else P.ret acc) i
def tL (E A : P T) : P T := atP fun i => (yl L E A (L.length + 1) []).bind (fun l => P.ret (.mk 1 [] 0 (pos L i) l))
def ju : Nat -> P T
 | 0 => vi L
 | n + 1 => tL L (uH L n) (ju n)
def ys (part : P T) : Nat -> List T -> P (List T)
 | 0,_ => fun _ => .error (0,0)
 | f + 1,acc => fun i => if yv (wd L i) = true then part.bind (fun t => (zD L yy).bind fun _ => ys part f (acc ++ [t])) i else .ok (acc,i)
def vC (k : List UInt8) (part : P T) : P T := atP fun i => (yu L k).bind (fun b => if b then (ys L part (L.length + 1) []).bind fun l => P.ret (.mk 1 [] 0 (pos L i) l) else P.ret (.mk 1 [] 0 (pos L i) []))
def jn (t y : T) : T := match t with | .mk k s n a _ => .mk k s n a [y]
def kE : P T := (yT L 4).bind fun n => (zD L fe).bind fun _ => (uH L 20).bind fun e => P.ret (jn n e)
def jD : P T := atP fun i => (zD L qX).bind fun _ => (gZ L).bind (fun n => (zD L kOF).bind fun _ => (yf L).bind fun y => P.ret (.mk 9 [] n (pos L i) [y]))
def vV : P T := atP fun i => (zD L ji).bind fun _ => (zD L kTO).bind (fun _ => (yf L).bind fun y => P.ret (.mk 12 [] 0 (pos L i) [y]))
def vr : P T := (yT L 6).bind (jO L)
def kH : P T := (yT L 11).bind (jO L)
def kz : P T := (vh L 6).bind (jO L)
def nj : P T := atP fun i => (yu L xy).bind (fun b => if b then (yf L).bind fun y => (zD L jk).bind fun _ => P.ret y else P.ret (.mk 0 [] 0 (pos L i) []))
def xf : P T := atP fun i => (zD L jV).bind fun _ => (nj L).bind (fun y => (ys L (kH L) (L.length + 1) []).bind fun l => (zD L jB).bind fun _ => P.ret (.mk 10 [] 0 (pos L i) (y :: l)))
def zP : P T := fun i =>
 if wd L i = qX then jD L i else if wd L i = jV then xf L i else if wd L i = ji then vV L i else .error (yi L i)
def xM : P T := (yT L 5).bind fun n => (zD L fe).bind fun _ => (zP L).bind fun e => P.ret (jn n e)
def yU : P T := atP fun i => (yu L pG).bind (fun b => (uj L).bind fun s => jO L (.mk 8 s (if b then 1 else 0) (pos L i) []))
def xw : P T := fun i => if wd L i = xy then (xr L (yU L) yy).bind (fun l => P.ret (.mk 1 [] 0 (pos L i) l)) i else .ok (.mk 1 [] 0 (pos L i) [],i)
def qJ : P T := atP fun i => (yu L qE).bind (fun b => if b then yf L else P.ret (.mk 0 [] 0 (pos L i) []))
def qw (s : List UInt8) : P Unit := (zD L jB).bind fun _ => zD L s
def zW : P T := atP fun i => (zD L xo).bind fun _ => (yT L 7).bind (fun h => (xw L).bind fun ps => (qJ L).bind fun r => (zD L yy).bind fun _ => (vC L pG (kz L)).bind fun vs => (zD L jG).bind fun _ => (ju L 20).bind fun b =>
 match h with | .mk _ s n _ _ => (qw L s).bind fun _ => P.ret (.mk 7 s n (pos L i) [ps,r,vs,b]))
def xe : Nat -> List T -> P (List T)
 | 0,_ => fun _ => .error (0,0)
 | f + 1,acc => fun i => if wd L i = xo then (zW L).bind (fun t => (zD L yy).bind fun _ => xe f (acc ++ [t])) i else .ok (acc,i)
def yO : P T := atP fun i => (xe L (L.length + 1) []).bind (fun l => P.ret (.mk 1 [] 0 (pos L i) l))
def uT : P T := atP fun i => (yu L rD).bind (fun b => if b then (vA L (vh L 3) qx).bind fun l => (zD L yy).bind fun _ => P.ret (.mk 1 [] 0 (pos L i) l) else P.ret (.mk 1 [] 0 (pos L i) []))
def mx : P T := atP fun i => (yu L jG).bind (fun b => if b then ju L 20 else P.ret (.mk 1 [] 0 (pos L i) []))
def yY : P T := atP fun i => (zD L rN).bind (fun _ => (uj L).bind fun s => (zD L yy).bind fun _ => (uT L).bind fun m1 => (vC L oP (kE L)).bind fun m2 => (vC L mt (xM L)).bind fun m3 =>
 (vC L pG (vr L)).bind fun m4 => (yO L).bind fun m5 => (mx L).bind fun m6 => (qw L s).bind fun _ => (zD L jv).bind fun _ => P.ret (.mk 2 s 0 (pos L i) [m1,m2,m3,m4,m5,m6]))
def vB : P T := (yY L).bind fun t i => if wd L i = [] then .ok (t,i) else .error (yi L i)
end
end Go.Proofs.YtnmkffjklpfflaaGreatDoor
