/- What a module shows,as a function of the checker's tables. -/
import Derived.Test.YtnmkffjklpfflaaGreatDoorG22
import Derived.Test.YtnmkffjklpfflaaGreatDoorG08
namespace Go.Proofs.YtnmkffjklpfflaaGreatDoor
section
variable (S : KS)
def KS.nameT (t : KTy) : Nm := match t.home with
 | none => t.name
 | some m => (S.md m).name ++ [46] ++ t.name
def kS (x : Nm) (e : Bool) : Nm := if e = true then x ++ [42] else x
def KS.fldT (d : KFd) : Nm := [32] ++ kS d.name d.exp ++ [58] ++ S.nameT (S.ty d.ty) ++ [64] ++ vX d.first
def KS.ofT (t : KTy) : Nm := match t.of with
 | none => []
 | some j => [32,40] ++ S.nameT (S.ty j) ++ [41]
def xi : Nm := [82,69,67,79,82,68,32]
def ml : Nm := [65,82,82,65,89,32]
def pF : Nm := [80,79,73,78,84,69,82,32]
def nW : Nm := [67,79,78,83,84,32]
def mI : Nm := [84,89,80,69,32]
def ly : Nm := [86,65,82,32]
def sk : Nm := [80,82,79,67,69,68,85,82,69,32]
def KS.recT (t : KTy) : Nm := xi ++ vX t.words ++ S.ofT t ++ t.fields.flatMap S.fldT
def KS.typeT (t : KTy) : Nm := if t.form = 3 then ml ++ vX t.places ++ [32] ++ S.nameT (S.ty (t.of.getD 0)) else if t.form = 5 then pF ++ S.nameT (S.ty (t.of.getD 0)) else S.recT t
def KS.parT (x : Nat) : Nm := (if (S.th x).byVar = true then [32,86,65,82] else []) ++ ([32] ++ S.nameT (S.ty ((S.th x).ty.getD 0)))
def KS.resT (p : KPr) : Nm := match p.result with
 | none => []
 | some j => [32,58,32] ++ S.nameT (S.ty j)
def KS.headT (p : KPr) : Nm := p.pars.flatMap S.parT ++ S.resT p
def KS.lineT (t : KTh) : Nm := if t.kind = 1 then nW ++ t.name ++ [32] ++ S.nameT (S.ty (t.ty.getD 0)) ++ [32] ++ vX t.value else if t.kind = 2 then mI ++ kS t.name t.exp ++ [32] ++ S.typeT (S.ty (t.ty.getD 0))
 else if t.kind = 3 then ly ++ t.name ++ [32] ++ S.nameT (S.ty (t.ty.getD 0)) ++ [32] ++ vX t.first else sk ++ t.name ++ S.headT (S.pr (t.proc.getD 0))
def KS.showT (i : Nat) : Nm := if ((S.th i).exp || decide ((S.th i).kind = 2)) = true then S.lineT (S.th i) ++ [10] else []
def KS.faceT (m : Nat) : Nm := (S.md m).name ++ [10] ++ (S.md m).decl.flatMap S.showT
def fp (z : Int) : Bool := decide (0 <= z) && decide (z <= 1000000)
def shB (x : Nm) : Bool := decide (x.length <= 5000)
def KS.tyOK (t : KTy) : Bool := shB (S.typeT t) && (if t.form = 3 then t.of.isSome && fp t.places else if t.form = 5 then t.of.isSome else fp t.words && t.fields.all fun d => fp d.first)
def KS.thOK (t : KTh) : Bool := shB (S.lineT t) && (if t.kind = 1 then t.ty.isSome && fp t.value else if t.kind = 2 then t.ty.isSome && S.tyOK (S.ty (t.ty.getD 0)) else if t.kind = 3 then t.ty.isSome && fp t.first else decide (t.kind = 4) && t.proc.isSome && (S.pr (t.proc.getD 0)).pars.all fun x => (S.th x).ty.isSome)
def KS.faceOK (m : Nat) : Bool := decide ((S.faceT m).length <= 100000) && (S.md m).decl.all fun i => !((S.th i).exp || decide ((S.th i).kind = 2)) || S.thOK (S.th i)
end
end Go.Proofs.YtnmkffjklpfflaaGreatDoor
