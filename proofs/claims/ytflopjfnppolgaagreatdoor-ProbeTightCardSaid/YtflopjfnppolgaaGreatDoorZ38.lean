/-
  Contracts of the functions that the law calls, for every input (Pg).
-/
import Derived.Test.YtflopjfnppolgaaGreatDoorZ00
import Derived.RangeFuncNested
import Derived.RangeFuncBound
import Derived.RangeFuncCalls
import Derived.RangeFuncLeaves
import Derived.OrdersIn
import Derived.Deep.RegionHeld3
import Derived.OwnWalkIn
import Derived.TacticsInMore
import Derived.LoopNIn
import Derived.LoopIn
import Derived.Test.YtflopjfnppolgaaGreatDoorZ37
import Derived.Test.YtflopjfnppolgaaGreatDoorZ19
import Derived.Test.YtflopjfnppolgaaGreatDoorZ18
import Derived.Test.YtflopjfnppolgaaGreatDoorZ11
import Derived.Test.YtflopjfnppolgaaGreatDoorZ08
import Derived.Test.YtflopjfnppolgaaGreatDoorZ09
set_option linter.all false
set_option maxRecDepth 100000
set_option maxHeartbeats 40000000
namespace Go.Proofs.YtflopjfnppolgaaGreatDoor
open Lib (hid)
open Go.RowKit
open Vx
theorem Gs {W:World} {p:Addr} {v:Value} {o:Obj} (h:W.cell? p=some v) (ho:W.heap[p.block]?=some o):o.isCells=true:=by
 unfold World.cell? at h
 rw [ho] at h
 cases o <;> first | rfl | (simp at h)
def Ch' (B:Nat) (A C:World):Prop:=A.heap.size≤C.heap.size∧∀ (k:Nat) (o:Obj),k≠B→A.heap[k]?=some o→o.isCells=true→C.heap[k]?=some o
theorem Ch'.refl (B:Nat) (A:World):Ch' B A A:=⟨nL _,fun _ _ _ h _=>h⟩
theorem Ch'.trans {B:Nat} {X Y Z:World} (h:Ch' B X Y) (k:Ch' B Y Z):Ch' B X Z:=⟨nT h.1 k.1,fun p v hp hv hc=>k.2 p v hp (h.2 p v hp hv hc) hc⟩
theorem Ch'.cell {B:Nat} {A C:World} (h:Ch' B A C) {p:Addr} {v:Value} (hp:p.block≠B) (hv:A.cell? p=some v):C.cell? p=some v:=by
 have hl:=bL A _ hv
 have ho:A.heap[p.block]?=some A.heap[p.block]:=by simp [hl]
 have h2:=h.2 _ _ hp ho (Gs hv ho)
 exact (World.cell?_of_block (h2.trans ho.symm)).trans hv
theorem Ch'.grown {B:Nat} {X Y:World} {row:Option Nat} (hg:X.grownBy Y row) (hr:∀ r,row=some r→∃ o:Obj,X.heap[r]?=some o∧o.isCells=false):Ch' B X Y:=by
 refine ⟨hg.size,fun k o _ hv hc=>(hg.block k (gE.1 hv).1 fun e=>?_).trans hv⟩
 obtain ⟨o',ho,hc'⟩:=hr _ e.symm
 rw [hv] at ho
 obtain rfl:=Option.some.inj ho
 rw [hc] at hc'
 cases hc'
end Go.Proofs.YtflopjfnppolgaaGreatDoor
