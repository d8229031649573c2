/-
  Contracts of the functions that the law calls, for every input (AK').
-/
import Derived.Test.YtflopjfnppolgaaGreatDoorZ00
import Derived.Test.YtflopjfnppolgaaGreatDoorZ19
import Derived.Test.YtflopjfnppolgaaGreatDoorTie
import Derived.Test.YtflopjfnppolgaaGreatDoorCards
import Derived.ProofKit
import Derived.LaidMore
import Derived.OpenShut
import Derived.Lay
import Derived.Lib.LaidTab
import Derived.Shelf.Vars
import Derived.SevenTiedAt
import Derived.Stop.Joined
set_option linter.all false
set_option maxRecDepth 100000
set_option maxHeartbeats 40000000
namespace Go.Proofs.YtflopjfnppolgaaGreatDoor
open Lib (hid)
open Go.ChangeShapes Go.WideShapes Go.ChangeAt Go.RowKit
open Go.ChangeMaps (open_string shut_string)
def listed:List (String × DataW Unit):=Rows.probeTightRow.laid
theorem own:ownKnob Tryz.prog.godebug=none:=by kernel_rfl
theorem IX {W:World} (h:laidMetH Tryz.prog listed W):TabAt 0 Lib.deBruijn64tab W:=by
 rw [MakeChecks.laidMetH_plain _ _ _ (by kernel_rfl)] at h
 have e:Rows.laid_math_bits_deBruijn64tab (H:=Unit)=Lib.tabData .u8 (Lib.deBruijn64tab.map fun n:Nat=>(n:Int)):=by kernel_rfl
 unfold listed Rows.probeTightRow at h
 dsimp only at h
 rw [e] at h
 have ht:=Lib.tabIs_of_head (g:=0) (t:=((Tryz.prog.globals[0]?).map (·.type)).getD 0) (e:=5) (n:=64) (by kernel_rfl) (by kernel_rfl) (by kernel_rfl) (by kernel_rfl) (by kernel_rfl) (by kernel_rfl) h
 intro j hj
 have hc:=ht.cell (g:=0) (by kernel_rfl) j (by rw [List.length_map];exact hj)
 rw [hc]
 simp only [List.getD_eq_getElem?_getD,List.getElem?_map,List.getElem?_eq_getElem hj,Option.map_some,Option.getD_some]
end Go.Proofs.YtflopjfnppolgaaGreatDoor
