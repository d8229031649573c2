/-
  Contracts of the functions that the law calls, for every input (Rb Rc Rd).
-/
import Derived.Test.YtlcimajjnfbidaaGreatDoorV00
import Derived.Test.YtlcimajjnfbidaaGreatDoorProg
import Derived.WalkKit
import Derived.WalkLawsBesides
import Derived.WalkSpells
import Derived.Outline
import Derived.Handy
import Derived.Deep.Draws
import Derived.Laws.Externs
import Derived.Lib.Hide
import Derived.Shelf.Spec.BitsCarry
import Derived.Test.YtlcimajjnfbidaaGreatDoorV24
set_option linter.all false
set_option maxRecDepth 100000
set_option maxHeartbeats 40000000
namespace Go.Proofs.YtlcimajjnfbidaaGreatDoor.Rf
open Lib (hid)
open Go.RowKit
open Rx
def BReads (w:World) (v:Value) (n z:Nat):Prop :=
  ∃ A c,v=.slice A n c∧n≤c∧c≤maxLen∧z<V^n ∧
    (0<n→∃ g o,A=some ⟨g,o,none⟩∧g<w.heap.size∧∀ j,j<n→w.cell? ⟨g,o+j,none⟩=some (.int .i64 (word z j:Nat)))
def IsBig (w:World) (v:Value) (z:Nat):Prop:=BReads w v (len z) z
theorem BReads.keep {w w':World} {v:Value} {n z:Nat} (h:BReads w v n z) (hb:Below w.heap.size w w'):BReads w' v n z:=by
 obtain ⟨A,c,h1,h2,h3,h4,h5⟩:=h
 refine ⟨A,c,h1,h2,h3,h4,fun hx=>?_⟩
 obtain ⟨g,o,h6,h7,h8⟩:=h5 hx
 exact ⟨g,o,h6,Nat.lt_of_lt_of_le h7 hb.size,fun j hj=>(hb.cell (p:=⟨g,o+j,none⟩) h7).trans (h8 j hj)⟩
theorem IsBig.keep {w w':World} {v:Value} {z:Nat} (h:IsBig w v z) (hb:Below w.heap.size w w'):IsBig w' v z:=BReads.keep h hb
end Go.Proofs.YtlcimajjnfbidaaGreatDoor.Rf
namespace Go.Proofs.YtlcimajjnfbidaaGreatDoor.Rf
open Lib (hid)
open Go.RowKit
open Rx
theorem alloc_below (w:World) (o:Obj):Below w.heap.size w (w.alloc o):=(Below.refl _ _).alloc (Nat.le_refl _) _
def Gath (w0 wr:World) (v:Value) (z k:Nat):Prop:=wr.ownsRow w0.heap.size 3 1 v k ((wl z k).map fun d=>Value.int .i64 (d:Nat))
end Go.Proofs.YtlcimajjnfbidaaGreatDoor.Rf
namespace Go.Proofs.YtlcimajjnfbidaaGreatDoor.Rf
open Lib (hid)
open Go.RowKit
open Rx
theorem BReads.at {w:World} {A:Option Addr} {n c z k:Nat} (h:BReads w (.slice A n c) n z) (hk:k<n):∃ g o,A=some ⟨g,o,none⟩∧w.cell? ⟨g,o+k,none⟩=some (.int .i64 (word z k:Nat)):=by
 obtain ⟨A',c',e,hn,hc,hz,hp⟩:=h
 simp only [Value.slice.injEq,true_and] at e
 obtain ⟨rfl,rfl⟩:=e
 obtain ⟨g,o,h1,h2,h3⟩:=hp (by omega)
 exact ⟨g,o,h1,h3 k hk⟩
end Go.Proofs.YtlcimajjnfbidaaGreatDoor.Rf
