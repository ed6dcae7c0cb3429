/- Names and types as the checker has them: its tables,and what it says of a tree,as functions. -/
import Derived.Test.YtnmkffjklpfflaaGreatDoorG04
namespace Go.Proofs.YtnmkffjklpfflaaGreatDoor
abbrev Nm := List UInt8
structure KFd where
 name : Nm
 exp : Bool
 ty : Nat
 first : Int
structure KTy where
 form : Int
 name : Nm
 home : Option Nat
 words : Int
 places : Int
 of : Option Nat
 fields : List KFd
 complete : Bool
structure KTh where
 kind : Int
 name : Nm
 exp : Bool
 home : Option Nat
 ty : Option Nat
 value : Int
 first : Int
 byVar : Bool
 proc : Option Nat
 valued : Bool
 mod : Option Nat
structure KPr where
 home : Nat
 inner : List (Nm × Nat)
 acts : List T
 words : Int
 pars : List Nat
 result : Option Nat
structure KMd where
 name : Nm
 names : List (Nm × Nat)
 acts : List T
 words : Int
 imps : List Nat
 decl : List Nat
structure KS where
 tys : List KTy
 ths : List KTh
 prs : List KPr
 mds : List KMd
 mods : List (Nm × Nat)
structure KSc where
 home : Nat
 inner : Option Nat
def ty0 : KTy := ⟨0,[],none,0,0,none,[],false⟩
def th0 : KTh := ⟨0,[],false,none,none,0,0,false,none,false,none⟩
def pr0 : KPr := ⟨0,[],[],0,[],none⟩
def md0 : KMd := ⟨[],[],[],0,[],[]⟩
def KS.ty (S : KS) (i : Nat) : KTy := S.tys[i]?.getD ty0
def KS.th (S : KS) (i : Nat) : KTh := S.ths[i]?.getD th0
def KS.pr (S : KS) (i : Nat) : KPr := S.prs[i]?.getD pr0
def KS.md (S : KS) (i : Nat) : KMd := S.mds[i]?.getD md0
def KS.of (S : KS) (i : Nat) : Nat := (S.ty i).of.getD 0
def lk : List (Nm × Nat) -> Nm -> Option Nat
 | [],_ => none
 | p :: r,x => if p.1 = x then some p.2 else lk r x
def t00 : T := .mk 0 [] 0 0 []
def sub (n : T) (i : Nat) : T := n.subs[i]?.getD t00
/-! ### What names mean -/
def KS.innerOf (S : KS) : Option Nat -> Nm -> Option Nat
 | none,_ => none
 | some p,x => lk (S.pr p).inner x
def KS.find (S : KS) (c : KSc) (x : Nm) : Option Nat := match S.innerOf c.inner x with
 | some t => some t
 | none => lk (S.md c.home).names x
def KS.imported (S : KS) (c : KSc) (x : Nm) : Option Nat := match S.find c x with
 | some t => (S.th t).mod
 | none => none
def KS.shown (S : KS) (m : Nat) (x : Nm) : Option Nat := match lk (S.md m).names x with
 | some t => if (S.th t).exp = true then some t else none
 | none => none
def KS.ahead (S : KS) (c : KSc) (n : T) : Option Nat := if n.kind = 25 then (if (sub n 0).kind = 24 then S.imported c (sub n 0).name else none) else none
def KS.shownIn (S : KS) : Option Nat -> Nm -> Option Nat
 | some m,x => S.shown m x
 | none,_ => none
def KS.meaning (S : KS) (c : KSc) (n : T) : Option Nat := if n.kind = 24 then S.find c n.name else S.shownIn (S.ahead c n) n.name
def yL : Nm := [73,78,84,69,71,69,82]
def yO : Nm := [66,79,79,76,69,65,78]
def ym : List (Nm × Nat) := [(yL,0),(yO,1)]
def KS.typeThing (S : KS) (c : KSc) (n : T) : Option Nat := if 0 < n.subs.length then S.shownIn (S.imported c (sub n 0).name) n.name else match lk ym n.name with
 | some t => some t
 | none => S.find c n.name
/-! ### What is thrown -/
abbrev CR (α : Type) := Except (Int × Int) α
def thr {α : Type} (n : T) (e : Int) : CR α := .error (e,n.at')
def yX (n : T) (t want : Nat) : CR Unit := if t = want then .ok () else thr n 7
/-! ### Types -/
def KS.namedType (S : KS) (c : KSc) (n : T) : CR Nat := match S.typeThing c n with
 | none => thr n 5
 | some t => if (S.th t).kind = 2 then .ok ((S.th t).ty.getD 0) else thr n 8
def KS.typeName (S : KS) (c : KSc) (n : T) : CR Nat := (S.namedType c n).bind fun t => if (S.ty t).complete = true then .ok t else thr n 5
def KS.oneWord (S : KS) (t : Nat) : Bool := (S.ty t).form != 3 && (S.ty t).form != 4
def KS.oneWordType (S : KS) (c : KSc) (n : T) : CR Nat := (S.typeName c n).bind fun t => if S.oneWord t = true then .ok t else thr n 7
def KS.record (S : KS) (n : T) (t : Nat) : CR Nat := if (S.ty t).form = 4 then .ok t else thr n 7
def KS.extF (S : KS) : Nat -> Nat -> Nat -> Bool
 | 0,_,_ => false
 | f + 1,r,o => if r = o then true else match (S.ty r).of with
  | none => false
  | some q => S.extF f q o
def KS.ext (S : KS) (r o : Nat) : Bool := S.extF (r + 1) r o
def kC : List KFd -> Nm -> Option KFd
 | [],_ => none
 | d :: r,x => if d.name = x then some d else kC r x
def KS.fieldF (S : KS) : Nat -> Nat -> Nm -> Option (KFd × Nat)
 | 0,_,_ => none
 | f + 1,r,x => match kC (S.ty r).fields x with
  | some d => some (d,r)
  | none => match (S.ty r).of with
   | none => none
   | some q => S.fieldF f q x
def KS.field (S : KS) (r : Nat) (x : Nm) : Option (KFd × Nat) := S.fieldF (r + 1) r x
def KS.takes (S : KS) (t o : Nat) : Bool := if t = o then true else if (S.ty t).form = 5 then (if (S.ty o).form = 5 then S.ext (S.of o) (S.of t) else decide ((S.ty o).form = 2)) else false
def KS.mayEq (S : KS) (a b : Nat) : Bool := if S.oneWord a = true then (if S.oneWord b = true then (if a = 2 /\ b = 2 then false else S.takes a b || S.takes b a) else false) else false
/-! ### Operators -/
def lK : Nm := [38]
def aP : Nm := [79,82]
def so : Nm := [35]
def vK : Nm := [61]
def yD (x : Nm) : Nat := if x = lK \/ x = aP then 1 else 0
def xd (x : Nm) : Nat := if x = [43] \/ x = [45] \/ x = [42] \/ x = [68,73,86] \/ x = [77,79,68] then 0 else 1
/-! ### Expressions -/
def KS.meaningC (S : KS) (c : KSc) (n : T) : CR (Option Nat) := match S.meaning c n with
 | some t => .ok (some t)
 | none => if n.kind = 24 then thr n 5 else match S.ahead c n with
  | some _ => thr n 5
  | none => .ok none
structure KR where
 ex : T -> CR Nat
 de : T -> CR Nat
def xe (r : KR) (n : T) (t : Nat) : CR Unit := (r.ex n).bind fun a => yX n a t
def KS.pointerC (S : KS) (r : KR) (n : T) : CR Nat := (r.ex (sub n 0)).bind fun t => if (S.ty t).form = 5 then .ok t else thr n 7
def KS.guardedC (S : KS) (c : KSc) (r : KR) (n : T) : CR Nat := (S.pointerC r n).bind fun f => (S.typeName c (sub n 1)).bind fun t =>
 if (S.ty t).form = 5 then (if S.ext (S.of t) (S.of f) = true then .ok t else thr n 7) else thr n 7
def KS.dotC (S : KS) (c : KSc) (r : KR) (n : T) : CR Nat := (r.de (sub n 0)).bind fun t =>
 let q := if (S.ty t).form = 5 then S.of t else t
 if (S.ty q).form = 4 then (match S.field q n.name with
  | none => thr n 5
  | some (d,o) => if d.exp = true then .ok d.ty else if (S.ty o).home = some c.home then .ok d.ty else thr n 5) else thr n 7
def KS.indexC (S : KS) (r : KR) (n : T) : CR Nat := (r.de (sub n 0)).bind fun t => (r.ex (sub n 1)).bind fun i =>
 if (S.ty t).form = 3 then (yX (sub n 1) i 0).bind fun _ => .ok (S.of t) else thr n 7
def KS.desigC (S : KS) (c : KSc) (r : KR) (n : T) : CR Nat := (S.meaningC c n).bind fun m => match m with
 | some t => if (S.th t).kind = 3 \/ (S.th t).kind = 1 then .ok ((S.th t).ty.getD 0) else thr n 8
 | none => if n.kind = 25 then S.dotC c r n else if n.kind = 26 then S.indexC r n else if n.kind = 27 then (S.pointerC r n).bind fun t => .ok (S.of t) else S.guardedC c r n
def zI (n : T) : Bool := decide (24 <= n.kind) && decide (n.kind <= 28)
def KS.variableC (S : KS) (c : KSc) (de : T -> CR Nat) (n : T) : CR Nat := if zI n = true then (S.meaningC c n).bind fun m =>
 if (match m with | some t => decide ((S.th t).kind ≠ 3) | none => false) = true then thr n 8 else (de n).bind fun t => if n.kind = 28 then thr n 8 else .ok t else thr n 8
def KS.calledC (S : KS) (c : KSc) (r : KR) (n : T) : CR Nat := (S.meaningC c n).bind fun m => match m with
 | none => (r.de n).bind fun _ => thr n 8
 | some t => if (S.th t).kind = 4 then .ok ((S.th t).proc.getD 0) else thr n 8
def KS.fitsC (S : KS) (c : KSc) (r : KR) (n : T) (p : Nat) : CR Bool := if (S.th p).byVar = true then (S.variableC c r.de n).bind fun t =>
  .ok (if some t = (S.th p).ty then true else if (S.ty t).form = 4 then S.ext t ((S.th p).ty.getD 0) else false)
 else (r.ex n).bind fun t => .ok (S.takes ((S.th p).ty.getD 0) t)
def KS.argsC (S : KS) (c : KSc) (r : KR) : List T -> List Nat -> CR Unit
 | x :: xs,p :: ps => (S.fitsC c r x p).bind fun b => if b = true then S.argsC c r xs ps else thr x 7
 | _,_ => .ok ()
def KS.callC (S : KS) (c : KSc) (r : KR) (n : T) : CR (Option Nat) := (S.calledC c r (sub n 0)).bind fun p =>
 if (n.subs.drop 1).length = (S.pr p).pars.length then (S.argsC c r (n.subs.drop 1) (S.pr p).pars).bind fun _ => .ok (S.pr p).result else thr n 7
def KS.operatorC (S : KS) (r : KR) (n : T) : CR Nat := (r.ex (sub n 0)).bind fun a => (r.ex (sub n 1)).bind fun b =>
 (if n.name = vK \/ n.name = so then (if S.mayEq a b = true then .ok () else thr n 7) else (yX (sub n 0) a (yD n.name)).bind fun _ => yX (sub n 1) b (yD n.name)).bind fun _ => .ok (xd n.name)
def KS.exprC (S : KS) (c : KSc) (r : KR) (n : T) : CR Nat :=
 if n.kind = 29 then .ok 0 else if n.kind = 30 \/ n.kind = 31 then .ok 1 else if n.kind = 32 then .ok 2
 else if n.kind = 34 then (xe r (sub n 0) 1).bind fun _ => .ok 1 else if n.kind = 35 then (xe r (sub n 0) 0).bind fun _ => .ok 0
 else if n.kind = 36 then S.operatorC r n else if n.kind = 37 then (S.guardedC c r n).bind fun _ => .ok 1
 else if n.kind = 33 then (S.callC c r n).bind fun t => (match t with | some t => .ok t | none => thr n 7) else S.desigC c r n
def KS.level (S : KS) (c : KSc) : Nat -> KR
 | 0 => ⟨fun n => thr n 0,fun n => thr n 0⟩
 | f + 1 => ⟨S.exprC c (S.level c f),S.desigC c (S.level c f)⟩
/-! ### Acts -/
def yQ {α : Type} (f : α -> CR Unit) : List α -> CR Unit
 | [] => .ok ()
 | x :: r => (f x).bind fun _ => yQ f r
def KS.returnC (S : KS) (r : KR) (res : Option Nat) (n : T) : CR Unit := if n.subs.length = 0 then (match res with | none => .ok () | some _ => thr n 7) else (r.ex (sub n 0)).bind fun t => match res with
 | none => thr n 7
 | some q => if S.takes q t = true then .ok () else thr (sub n 0) 7
def KS.actC (S : KS) (c : KSc) (r : KR) (res : Option Nat) (acts : List T -> CR Unit) (n : T) : CR Unit :=
 if n.kind = 14 then (S.variableC c r.de (sub n 0)).bind fun t => (r.ex (sub n 1)).bind fun u => if S.takes t u = true then .ok () else thr (sub n 1) 7
 else if n.kind = 15 then (S.callC c r n).bind fun t => (match t with | none => .ok () | some _ => thr n 7)
 else if n.kind = 16 \/ n.kind = 17 \/ n.kind = 18 then yQ (fun x => if x.kind = 1 then acts x.subs else xe r x 1) n.subs
 else if n.kind = 19 then S.returnC r res n
 else if n.kind = 20 then (S.variableC c r.de (sub n 0)).bind fun t => if (S.ty t).form = 5 then .ok () else thr (sub n 0) 7
 else if n.kind = 22 then (S.variableC c r.de (sub n 0)).bind fun t => yX (sub n 0) t 0
 else if n.kind = 21 then xe r (sub n 0) 0
 else if n.kind = 23 then xe r (sub n 0) 1 else .ok ()
def KS.actsF (S : KS) (c : KSc) (r : KR) (res : Option Nat) : Nat -> List T -> CR Unit
 | 0,_ => .ok ()
 | f + 1,l => yQ (S.actC c r res (S.actsF c r res f)) l
end Go.Proofs.YtnmkffjklpfflaaGreatDoor
