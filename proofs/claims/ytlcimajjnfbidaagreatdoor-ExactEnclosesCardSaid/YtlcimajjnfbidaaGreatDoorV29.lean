/-
  Contracts of the functions that the law calls, for every input (Rt).
-/
import Derived.Test.YtlcimajjnfbidaaGreatDoorV00
import Derived.Test.YtlcimajjnfbidaaGreatDoorV19
import Derived.Test.YtlcimajjnfbidaaGreatDoorV28
import Derived.Deep.Cut
import Derived.Test.YtlcimajjnfbidaaGreatDoorV17
import Derived.Test.YtlcimajjnfbidaaGreatDoorV18
import Derived.Test.YtlcimajjnfbidaaGreatDoorV25
import Derived.Deep.QuietTactic
import Derived.BigQuiet
import Derived.StillTailTactics
import Derived.Deep.LoopGhost
set_option linter.all false
set_option maxRecDepth 100000
set_option maxHeartbeats 40000000
namespace Go.Proofs.YtlcimajjnfbidaaGreatDoor.Rf
open Lib (hid)
open Go.RowKit
open Rx
def restOf:Code→Code
  | .seq _ b=>b
  | c=>c
def codeAt (n:Nat) (fn:Func):Code:=Nat.repeat restOf n (fn.body.getD .skip)
end Go.Proofs.YtlcimajjnfbidaaGreatDoor.Rf
