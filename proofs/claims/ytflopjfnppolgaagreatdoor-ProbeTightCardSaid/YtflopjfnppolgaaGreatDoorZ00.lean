/-
  What a row of a block holds, cell by cell, for every world.
-/
import Derived.Test.YtflopjfnppolgaaGreatDoorProg
import Derived.Deep.RegionHeld3
import Derived.Below
import Derived.WalkKit
import Derived.WalkLawsBesides
import Derived.Handy
import Derived.Lib.Hide
set_option linter.all false
namespace Go.Proofs.YtflopjfnppolgaaGreatDoor
open Go.RowKit
def nT:=@Nat.le_trans
def nL:=@Nat.le_refl
def dF_:=@decide_eq_false
def dT_:=@decide_eq_true
def cR:=@cell_of_row
def fR:=@frozen_of_row
def bL:=@World.block_lt_of_cell?
def hA_:=@heap_alloc_new
def bP:=@bodyPost_ret
def gE:=@Array.getElem?_eq_some_iff
def mL:=@Nat.mul_le_mul_left
def ltl:=@Nat.lt_of_lt_of_le
theorem bS {w1 w2 w3:World} (h:Below w1.heap.size w1 w2) (k:Below w2.heap.size w2 w3):Below w1.heap.size w1 w3:=h.trans (k.mono h.size)
theorem rdz {P:Program} {ops:Array Oper} {Q:Exit→Act→World→Prop} {md:Region.Mode} {S:World→Prop} {fuel:Nat} {listed:Array Bool} {a:Act} {w:World} {i:Nat} {o:Oper} (ho:ops[i]?=some o:=by simp only [List.getElem?_toArray,List.getElem?_cons_zero,List.getElem?_cons_succ];rfl) (hr:Region.ready md ops listed=[i]:=by kernel_rfl) (h:∀ K':Act→World→Prop,Shut (∀ a w,S w→(S w→wpAnyH P md ops Q S fuel (listed.setIfInBounds i true) a w)→K' a w)→if Region.wanted o (yielded ops a.tmps)=true then Oper.wp P o a w K' Q else K' (a.put o.dst undef) w):wpAnyH P md ops Q S (fuel+1) listed a w:=wpAnyH_ready hr (by simp) (AllReadyH.cons ho h AllReadyH.nil)
theorem eX {α : Type} (x : α) : ∃ u, u = x := ⟨x, rfl⟩
theorem eY {α : Type} (x : α) : ∃ u, x = u := ⟨x, rfl⟩
theorem Ad' {w : World} {b : Nat} {v0 v1 v2 : Value} {ty : TypeId} (h : w.heap[b]? = some (.cells #[v0, v1, v2] ty (0, 0))) : w.cell? ⟨b, 0, none⟩ = some v0 ∧ w.cell? ⟨b, 1, none⟩ = some v1 ∧ w.cell? ⟨b, 2, none⟩ = some v2 := ⟨cR _ _ 0 _ _ _ h, cR _ _ 1 _ _ _ h, cR _ _ 2 _ _ _ h⟩
theorem Aj {w : World} {b : Nat} {v0 v1 v2 v3 v4 v5 : Value} {ty : TypeId} (h : w.heap[b]? = some (.cells #[v0, v1, v2, v3, v4, v5] ty (0, 0))) : w.cell? ⟨b, 0, none⟩ = some v0 ∧ w.cell? ⟨b, 1, none⟩ = some v1 ∧ w.cell? ⟨b, 2, none⟩ = some v2 ∧ w.cell? ⟨b, 3, none⟩ = some v3 ∧ w.cell? ⟨b, 4, none⟩ = some v4 ∧ w.cell? ⟨b, 5, none⟩ = some v5 := ⟨cR _ _ 0 _ _ _ h, cR _ _ 1 _ _ _ h, cR _ _ 2 _ _ _ h, cR _ _ 3 _ _ _ h, cR _ _ 4 _ _ _ h, cR _ _ 5 _ _ _ h⟩
end Go.Proofs.YtflopjfnppolgaaGreatDoor
