/-
  Contracts of the functions that the law calls, for every input (Pg).
-/
import Derived.Test.YtcicfnlljdnagaaGreatDoorY00
import Derived.RangeFuncNested
import Derived.RangeFuncBound
import Derived.RangeFuncCalls
import Derived.RangeFuncLeaves
import Derived.OrdersIn
import Derived.Deep.RegionHeld3
import Derived.OwnWalkIn
import Derived.TacticsInMore
import Derived.LoopNIn
import Derived.LoopIn
import Derived.Test.YtcicfnlljdnagaaGreatDoorY34
import Derived.Test.YtcicfnlljdnagaaGreatDoorY30
set_option linter.all false
set_option maxRecDepth 100000
set_option maxHeartbeats 40000000
namespace Go.Proofs.YtcicfnlljdnagaaGreatDoor
open Lib (hid)
open Go.RowKit
open Vx
theorem FR' {W:World} {p:Addr} {v:Value} {o:Obj} (h:W.cell? p=some v) (ho:W.heap[p.block]?=some o):o.isCells=true:=by
 unfold World.cell? at h
 rw [ho] at h
 cases o <;> first | rfl | (simp at h)
def CA (B:Nat) (A C:World):Prop:=A.heap.size≤C.heap.size∧∀ (k:Nat) (o:Obj),k≠B→A.heap[k]?=some o→o.isCells=true→C.heap[k]?=some o
theorem CA.refl (B:Nat) (A:World):CA B A A:=⟨nL _,fun _ _ _ h _=>h⟩
theorem CA.trans {B:Nat} {X Y Z:World} (h:CA B X Y) (k:CA B Y Z):CA B X Z:=⟨nT h.1 k.1,fun p v hp hv hc=>k.2 p v hp (h.2 p v hp hv hc) hc⟩
theorem CA.cell {B:Nat} {A C:World} (h:CA B A C) {p:Addr} {v:Value} (hp:p.block≠B) (hv:A.cell? p=some v):C.cell? p=some v:=by
 have hl:=bL A _ hv
 have ho:A.heap[p.block]?=some A.heap[p.block]:=by simp [hl]
 have h2:=h.2 _ _ hp ho (FR' hv ho)
 exact (World.cell?_of_block (h2.trans ho.symm)).trans hv
end Go.Proofs.YtcicfnlljdnagaaGreatDoor
