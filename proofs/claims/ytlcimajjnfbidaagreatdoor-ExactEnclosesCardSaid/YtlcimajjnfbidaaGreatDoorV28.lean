/-
  Contracts of the functions that the law calls, for every input (Rm).
-/
import Derived.Test.YtlcimajjnfbidaaGreatDoorV00
import Derived.Test.YtlcimajjnfbidaaGreatDoorV27
import Derived.Deep.LoopGhost
set_option linter.all false
set_option maxRecDepth 100000
set_option maxHeartbeats 40000000
namespace Go.Proofs.YtlcimajjnfbidaaGreatDoor.Rf
open Lib (hid)
open Go.RowKit
open Rx
def IsRat (w:World) (v:Value) (q:Rat):Prop:=∃ v1 v2,v=.agg #[.bool (decide (q.num<0)),v1,v2]∧IsBig w v1 q.num.natAbs∧IsBig w v2 q.den
theorem IsRat.keep {w w':World} {v:Value} {q:Rat} (h:IsRat w v q) (hb:Below w.heap.size w w'):IsRat w' v q:=by
 obtain ⟨v1,v2,h1,h2,h3⟩:=h
 exact ⟨v1,v2,h1,h2.keep hb,h3.keep hb⟩
theorem IsRat.opened {w:World} {v:Value} {q:Rat} (h:IsRat w v q):∃ A1 c1 A2 c2,v=.agg #[.bool (decide (q.num<0)),.slice A1 (len q.num.natAbs) c1,.slice A2 (len q.den) c2]∧IsBig w (.slice A1 (len q.num.natAbs) c1) q.num.natAbs∧IsBig w (.slice A2 (len q.den) c2) q.den:=by
 obtain ⟨v1,v2,rfl,h1,h2⟩:=h
 obtain ⟨A1,c1,rfl,r1⟩:=id h1
 obtain ⟨A2,c2,rfl,r2⟩:=id h2
 exact ⟨A1,c1,A2,c2,rfl,h1,h2⟩
def RB (wB:World) (G:Nat) (w:World):Prop:=Below G wB w∧∃ b A n c A' n' c',w.heap[G]?=some (.cells #[.bool b,.slice A n c,.slice A' n' c'] 39 (0,0))
theorem RB.start (w:World):RB w w.heap.size (w.alloc (.cells #[.bool false,.slice none 0 0,.slice none 0 0] 39)):=⟨alloc_below w _,_,_,_,_,_,_,_,heap_alloc_new w _⟩
theorem RB.lt {wB w:World} {G:Nat} (h:RB wB G w):G<w.heap.size:=by
 obtain ⟨-,_,_,_,_,_,_,_,h⟩:=h
 exact (Array.getElem?_eq_some_iff.1 h).1
theorem RB.call {wB w w':World} {G:Nat} (h:RB wB G w) (hb:Below w.heap.size w w'):RB wB G w':=by
 have hl:=h.lt
 obtain ⟨h1,b,A,n,c,A',n',c',h2⟩:=h
 exact ⟨h1.trans (hb.mono (Nat.le_of_lt hl)),b,A,n,c,A',n',c',(hb.block _ hl).trans h2⟩
theorem RB.cells {wB w:World} {G:Nat} (h:RB wB G w):∃ u0 u1 u2,(w.cell? ⟨G,0,none⟩=some u0∧w.cell? ⟨G,1,none⟩=some u1∧w.cell? ⟨G,2,none⟩=some u2)∧w.frozen? ⟨G,0,none⟩=false∧w.frozen? ⟨G,1,none⟩=false∧w.frozen? ⟨G,2,none⟩=false:=by
 obtain ⟨-,b,A,n,c,A',n',c',h2⟩:=h
 exact ⟨_,_,_,⟨cell_of_row _ _ 0 _ _ _ h2,cell_of_row _ _ 1 _ _ _ h2,cell_of_row _ _ 2 _ _ _ h2⟩,frozen_of_row _ _ 0 _ _ h2,frozen_of_row _ _ 1 _ _ h2,frozen_of_row _ _ 2 _ _ h2⟩
theorem setcell3 {w:World} {G:Nat} {T:TypeId} {x y z:Value} (hg:w.heap[G]?=some (.cells #[x,y,z] T (0,0))) (a b c:Value) :
   (((w.setCell ⟨G,0,none⟩ a).setCell ⟨G,1,none⟩ b).setCell ⟨G,2,none⟩ c).heap[G]?=some (.cells #[a,b,c] T (0,0)):=by
 have g1:=heap_setCell_same w G 0 _ _ a hg
 have g2:=heap_setCell_same _ G 1 _ _ b g1
 have g3:=heap_setCell_same _ G 2 _ _ c g2
 rw [g3];rfl
theorem IsBig.other {w:World} {v:Value} {z G i:Nat} {u:Value} {cs:Array Value} {T:TypeId} (h:IsBig w v z) (hg:w.heap[G]?=some (.cells cs T (0,0))) (hp:∀ (i:Nat) (n:Int),cs[i]?≠some (.int .i64 n)):IsBig (w.setCell ⟨G,i,none⟩ u) v z:=by
 obtain ⟨A,c,h1,h2,h3,h4,h5⟩:=h
 refine ⟨A,c,h1,h2,h3,h4,fun hx=>?_⟩
 obtain ⟨g,o,h6,h7,h8⟩:=h5 hx
 have hne:G≠g:=by
   intro e
   have:=h8 0 hx
   rw [←e,cell_of_row _ _ _ _ _ _ hg] at this
   exact hp _ _ this
 refine ⟨g,o,h6,by rw [World.size_setCell];exact h7,fun j hj=>?_⟩
 rw [←h8 j hj]
 exact World.cell?_of_block (heap_setCell_other _ _ _ _ (Ne.symm hne))
theorem plain_row {b:Bool} {A A':Option Addr} {n c n' c':Nat}:∀ (i:Nat) (k:Int),(#[.bool b,.slice A n c,.slice A' n' c']:Array Value)[i]?≠some (.int .i64 k):=by
 intro i k
 match i with
 | 0=>simp
 | 1=>simp
 | 2=>simp
 | i+3=>simp
theorem RB.store {wB w:World} {G n c n' c':Nat} {b:Bool} {A A':Option Addr} (h:RB wB G w) :
   ∀ w',w'=((w.setCell ⟨G,0,none⟩ (.bool b)).setCell ⟨G,1,none⟩ (.slice A n c)).setCell ⟨G,2,none⟩ (.slice A' n' c') →
     Below G wB w'∧(w'.cell? ⟨G,0,none⟩=some (.bool b)∧w'.cell? ⟨G,1,none⟩=some (.slice A n c)∧w'.cell? ⟨G,2,none⟩=some (.slice A' n' c'))∧∀ v z,IsBig w v z→IsBig w' v z:=by
 intro w' hw
 obtain ⟨h1,b0,A0,n0,c0,A1,n1,c1,h2⟩:=h
 have g:=setcell3 h2 (.bool b) (.slice A n c) (.slice A' n' c')
 rw [←hw] at g
 refine ⟨by rw [hw];exact ((h1.setCell (p:=⟨G,0,none⟩) (Nat.le_refl _) _).setCell (p:=⟨G,1,none⟩) (Nat.le_refl _) _).setCell (p:=⟨G,2,none⟩) (Nat.le_refl _) _,⟨cell_of_row _ _ 0 _ _ _ g,cell_of_row _ _ 1 _ _ _ g,cell_of_row _ _ 2 _ _ _ g⟩,fun v z hv=>?_⟩
 rw [hw]
 have g1:=heap_setCell_same w G 0 _ _ (.bool b) h2
 have g2:=heap_setCell_same _ G 1 _ _ (.slice A n c) g1
 exact ((hv.other h2 plain_row).other (i:=1) (u:=.slice A n c) g1 plain_row).other (i:=2) (u:=.slice A' n' c') g2 plain_row
end Go.Proofs.YtlcimajjnfbidaaGreatDoor.Rf
