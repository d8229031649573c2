/-
  Contracts of the functions that the law calls, for every input (Rt).
-/
import Derived.Test.YtflopjfnppolgaaGreatDoorZ00
import Derived.Test.YtflopjfnppolgaaGreatDoorZ18
import Derived.Test.YtflopjfnppolgaaGreatDoorZ27
import Derived.Deep.LoopGhost
set_option linter.all false
set_option maxRecDepth 100000
set_option maxHeartbeats 40000000
namespace Go.Proofs.YtflopjfnppolgaaGreatDoor.Rf
open Lib (hid)
open Go.RowKit
open Rx
def restOf:Code→Code
  | .seq _ b=>b
  | c=>c
def codeAt (n:Nat) (fn:Func):Code:=Nat.repeat restOf n (fn.body.getD .skip)
end Go.Proofs.YtflopjfnppolgaaGreatDoor.Rf
