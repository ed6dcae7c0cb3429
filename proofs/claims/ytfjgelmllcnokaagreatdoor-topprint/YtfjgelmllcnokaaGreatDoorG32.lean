/- The program's judge and the document's shapes say the same of every tree. -/
import Derived.Test.YtfjgelmllcnokaaGreatDoorG26
import Derived.Test.YtfjgelmllcnokaaGreatDoorG31
namespace Go.Proofs.YtfjgelmllcnokaaGreatDoor
open Go.RowKit
theorem two : Two := ⟨me,sS⟩
theorem td (t : T) (sv : Value) (w : World) (hf : Fits t) (ha : AT w t.subs sv) (hcount : zr t <= 10000) (htab : Lib.TabIs Tryz.prog w "strings.asciiSpace" .u8 Lib.asciiSpaceTab) :
  Calls Tryz.prog 17 #[yl t sv] w fun e w' => w.grownBy w' none /\ ((jY .module t = true /\ e = .returned (.tuple #[.int .i64 (zr t),.bool true])) \/ (jY .module t = false /\ e = .returned (.tuple #[.int .i64 0,.bool false]))) :=
 iQ two t sv w hf ha hcount htab
end Go.Proofs.YtfjgelmllcnokaaGreatDoor
