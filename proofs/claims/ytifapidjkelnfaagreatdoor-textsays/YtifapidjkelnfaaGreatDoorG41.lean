/- The program's judge and the document's shapes say the same of every tree. -/
import Derived.Test.YtifapidjkelnfaaGreatDoorG37
import Derived.Test.YtifapidjkelnfaaGreatDoorG38
import Derived.Test.YtifapidjkelnfaaGreatDoorG40
namespace Go.Proofs.YtifapidjkelnfaaGreatDoor
open Go.RowKit
theorem two : Two := ⟨dE,ql⟩
theorem kK (t : T) (sv : Value) (w : World) (hf : Fits t) (ha : AT w t.subs sv) (hcount : zn t <= 10000) (htab : Lib.TabIs Tryz.prog w "strings.asciiSpace" .u8 Lib.asciiSpaceTab) :
  Calls Tryz.prog 43 #[zq t sv] w fun e w' => w.grownBy w' none /\ ((zh .module t = true /\ e = .returned (.tuple #[.int .i64 (zn t),.bool true])) \/ (zh .module t = false /\ e = .returned (.tuple #[.int .i64 0,.bool false]))) :=
 tB two t sv w hf ha hcount htab
end Go.Proofs.YtifapidjkelnfaaGreatDoor
