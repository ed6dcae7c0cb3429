/- The program's judge and the document's shapes say the same of every tree. -/
import Derived.Test.YtlkokcnbbihljaaGreatDoorG34
import Derived.Test.YtlkokcnbbihljaaGreatDoorG35
import Derived.Test.YtlkokcnbbihljaaGreatDoorG36
namespace Go.Proofs.YtlkokcnbbihljaaGreatDoor
open Go.RowKit

theorem two : Two := ⟨module_says, procedure_says⟩
theorem formed_says (t : T) (sv : Value) (w : World) (hf : Fits t) (ha : AT w t.subs sv) (hcount : countT t ≤ 10000) (htab : Lib.TabIs Tryz.prog w "strings.asciiSpace" .u8 Lib.asciiSpaceTab) :
    Calls Tryz.prog 22 #[nodeV t sv] w fun e w' => w.grownBy w' none ∧ ((wellB .module t = true ∧ e = .returned (.tuple #[.int .i64 (countT t), .bool true])) ∨ (wellB .module t = false ∧ e = .returned (.tuple #[.int .i64 0, .bool false]))) :=
  formed_any two t sv w hf ha hcount htab
end Go.Proofs.YtlkokcnbbihljaaGreatDoor
