/-
  Contracts of the functions that the law calls, for every input (Ri Rk).
-/
import Derived.Test.YtlcimajjnfbidaaGreatDoorV00
import Derived.Test.YtlcimajjnfbidaaGreatDoorV26
import Derived.Laws.CopyOwn
import Derived.Deep.OwnRows
set_option linter.all false
set_option maxRecDepth 100000
set_option maxHeartbeats 40000000
namespace Go.Proofs.YtlcimajjnfbidaaGreatDoor.Rf
open Lib (hid)
open Go.RowKit
open Rx
def RowF (w:World) (g l:Nat) (f:Nat→Nat):Prop:=w.heap[g]?=some (.cells ((List.range l).map fun t=>Value.int .i64 (f t:Nat)).toArray 3 (0,0))
theorem RowF.cell {w:World} {g l t d:Nat} {f:Nat→Nat} (h:RowF w g l f) (ht:t<l) (hd:f t=d):w.cell? ⟨g,t,none⟩=some (.int .i64 (d:Nat)):=by
 rw [cell_of_row _ _ _ _ _ _ h,←hd];simp [ht]
theorem RowF.congr {w:World} {g l:Nat} {f f':Nat→Nat} (h:RowF w g l f) (e:∀ t,t<l→f t=f' t):RowF w g l f':=by
 have e2:((List.range l).map fun t=>Value.int .i64 (f t:Nat))=(List.range l).map fun t=>Value.int .i64 (f' t:Nat):=List.map_congr_left fun t ht=>by rw [e t (List.mem_range.1 ht)]
 unfold RowF at *
 rw [h,e2]
theorem RowF.set {w:World} {g l t d:Nat} {f:Nat→Nat} (h:RowF w g l f):RowF (w.setCell ⟨g,t,none⟩ (.int .i64 (d:Nat))) g l (fun j=>if j=t then d else f j):=by
 unfold RowF
 rw [heap_setCell_same w g t _ _ _ h]
 congr 2
 apply Array.ext'
 simp only [Array.setIfInBounds,List.size_toArray,List.length_map,List.length_range]
 apply List.ext_getElem?
 intro j
 by_cases hj:j<l
 · by_cases hjt:j=t
   · subst hjt;simp [hj]
   · split <;> simp [hj,hjt,Ne.symm hjt]
 · split <;> simp [hj]
theorem RowF.keep {w w':World} {g l:Nat} {f:Nat→Nat} (h:RowF w g l f) (e:w'.heap[g]?=w.heap[g]?):RowF w' g l f:=e.trans h
end Go.Proofs.YtlcimajjnfbidaaGreatDoor.Rf
namespace Go.Proofs.YtlcimajjnfbidaaGreatDoor.Rf
open Lib (hid)
open Go.RowKit
open Rx
theorem chain {w w1 w2:World} (h:Below w.heap.size w w1) (k:Below w1.heap.size w1 w2):Below w.heap.size w w2:=h.trans (k.mono h.size)
end Go.Proofs.YtlcimajjnfbidaaGreatDoor.Rf
