/-
  Contracts of the functions that the law calls, for every input (Pg).
-/
import Derived.Test.YtbigkkjnhcpgiaaGreatDoorQ00
import Derived.RangeFuncNested
import Derived.RangeFuncBound
import Derived.RangeFuncCalls
import Derived.RangeFuncLeaves
import Derived.OrdersIn
import Derived.Deep.RegionHeld3
import Derived.OwnWalkIn
import Derived.TacticsInMore
import Derived.LoopNIn
import Derived.LoopIn
import Derived.Test.YtbigkkjnhcpgiaaGreatDoorQ39
import Derived.Test.YtbigkkjnhcpgiaaGreatDoorQ38
set_option linter.all false
set_option maxRecDepth 100000
set_option maxHeartbeats 40000000
namespace Go.Proofs.YtbigkkjnhcpgiaaGreatDoor
open Lib (hid)
open Go.RowKit
open Vx
theorem Gv {P:Program} {l n:Nat} {o:Oper} {a:Act} {w:World} {K:Act→World→Prop} {Q:Exit→Act→World→Prop} (hd:∀ c,o.op≠.defer c) (h:o.wp P a w K Q):o.wpIn (Fence.wide.inRound l) n P a w K Q:=by
 refine ⟨fun _ _=>trivial,?_⟩
 rw [show (Fence.wide.inRound l).round=some l from rfl,Oper.semAt_some l _ _ hd]
 unfold Oper.wp at h
 revert h
 generalize (execOp a.eval o).run P w=r
 intro h
 cases r with
 | ok x w' =>
   cases x with
   | enter f args=>exact ⟨fun hh=>absurd hh (show ¬ (Option.isSome (none:Option Nat))=true by decide),CallsIn.inRound l (callsIn_wide.2 h)⟩
   | row row args=>exact ⟨fun hh=>absurd hh (show ¬ (Option.isSome (none:Option Nat))=true by decide),fun c cs _=>by
     obtain ⟨v,w1,r,s⟩:=h c cs
     exact ⟨v,w1,r,stepsIn_wide.2 s⟩⟩
   | _=>first | exact h | exact h.elim
 | halt x w' =>
   cases x with
   | _=>first | exact h | exact h.elim
theorem Iv {P:Program} {l n:Nat} {ops:Array Oper} {Q:Exit→Act→World→Prop} (hd:∀ (i:Nat) (o:Oper) c,ops[i]?=some o→o.op≠.defer c) (hq:¬ LetsOut Q) {i:Nat} {K K':Act→World→Prop} {a:Act} {w:World} (hK:∀ a w,K a w→K' a w)
   (h:wpOp P ops Q i K a w):wpOpIn (Fence.wide.inRound l) n P ops Q i K' a w:=by
 unfold wpOp at h
 unfold wpOpIn
 rcases e:ops[i]? with _ | o
 · rw [e] at h;exact hK _ _ h
 · rw [e] at h
   dsimp only at h ⊢
   split at h
   · rename_i hw
     rw [if_pos hw]
     rcases h with h | ⟨-,h⟩
     · exact Oper.wpIn_mono hK (Gv (fun c=>hd _ _ c e) h)
     · exact absurd h hq
   · rename_i hw
     rw [if_neg hw]
     exact ⟨fun _ _=>trivial,hK _ _ h⟩
theorem Hp' {P:Program} {l n:Nat} {md:Region.Mode} {ops:Array Oper} {Q:Exit→Act→World→Prop} (hd:∀ (i:Nat) (o:Oper) c,ops[i]?=some o→o.op≠.defer c) (hq:¬ LetsOut Q) :
   ∀ (fuel:Nat) (listed:Array Bool) (a:Act) (w:World),wpAny P md ops Q fuel listed a w→wpAnyIn (Fence.wide.inRound l) n P md ops Q fuel listed a w:=by
 intro fuel
 induction fuel with
 | zero=>intro listed a w h;exact h
 | succ fuel ih=>intro listed a w h;exact ⟨h.1,fun i hi=>Iv hd hq (fun a w k=>ih _ a w k) (h.2 i hi)⟩
theorem Dx' {P:Program} {l n id s:Nat} {ops:Array Oper} {Q:Exit→Act→World→Prop} {o:Oper} {S:World→Prop} {a:Act} {w:World} (hm:P.follows .mixedOrders=true) (hd:(ops.all fun o=>match o.op with | .defer _=>false | _=>true)=true) (hq:¬ LetsOut Q) (ho:ops[s]?=some o) (hd0:o.dst=none)
   (hl:Rf.IL .any ops s=true)
   (h:wpAnyH P .any (ops.setIfInBounds s (Rf.Cg' o)) (Rf.DP P ops Q s) S ops.size (Array.replicate ops.size false) a w.drew):(Code.region id ops true).wpIn (Fence.wide.inRound l) n P Q a w:=by
 have hdd:∀ (i:Nat) (o:Oper) c,ops[i]?=some o→o.op≠.defer c:=by
   intro i o c ho hc
   have h1:=Array.all_eq_true_iff_forall_mem.1 hd o (Array.mem_of_getElem? ho)
   rw [hc] at h1
   cases h1
 have hlt:s<ops.size:=(gE.1 ho).1
 have hl':=fun i (hi:i<ops.size)=>List.all_eq_true.1 hl i (List.mem_range.2 hi)
 refine wpIn_region_any hm (Hp' hdd hq _ _ _ _ (Rf.Fn (d:=Rf.Cg' o) ho hd0.symm rfl rfl rfl (fun a w=>Rf.Fn' o a w) (fun a w=>Rf.Fo o a w) ?_ ?_ _ _ _ _ (by simp) (by simp [hlt]) (wpAny_of_held _ _ _ _ h)))
 · intro i x hx e he hb
   have h1:=hl' i (gE.1 hx).1
   rw [hx] at h1
   simp only [Bool.and_eq_true] at h1
   have h2:=Array.all_eq_true_iff_forall_mem.1 h1.1 e he
   simpa [hb] using h2
 · intro j hj hjl
   have h1:=hl' j hjl
   rw [show ops[j]?=some ops[j] by simp [hjl],ho] at h1
   simp only [Bool.and_eq_true,Bool.or_eq_true,decide_eq_true_eq,hj,false_or] at h1
   obtain ⟨q,hq,h2⟩:=Array.any_eq_true.1 h1.2
   simp only [Bool.and_eq_true,decide_eq_true_eq] at h2
   exact ⟨_,Array.getElem_mem hq,h2.1,h2.2⟩
theorem D6' {W:World} {p:Addr} {v:Value} {o:Obj} (h:W.cell? p=some v) (ho:W.heap[p.block]?=some o):o.isCells=true:=by
 unfold World.cell? at h
 rw [ho] at h
 cases o <;> first | rfl | (simp at h)
def AP (B:Nat) (A C:World):Prop:=A.heap.size≤C.heap.size∧∀ (k:Nat) (o:Obj),k≠B→A.heap[k]?=some o→o.isCells=true→C.heap[k]?=some o
theorem AP.refl (B:Nat) (A:World):AP B A A:=⟨nL _,fun _ _ _ h _=>h⟩
theorem AP.trans {B:Nat} {X Y Z:World} (h:AP B X Y) (k:AP B Y Z):AP B X Z:=⟨nT h.1 k.1,fun p v hp hv hc=>k.2 p v hp (h.2 p v hp hv hc) hc⟩
theorem AP.of_below {B:Nat} {X Y:World} (h:Below X.heap.size X Y):AP B X Y:=⟨h.size,fun _ _ _ hv _=>(h.block _ (gE.1 hv).1).trans hv⟩
theorem AP.cell {B:Nat} {A C:World} (h:AP B A C) {p:Addr} {v:Value} (hp:p.block≠B) (hv:A.cell? p=some v):C.cell? p=some v:=by
 have hl:=bL A _ hv
 have ho:A.heap[p.block]?=some A.heap[p.block]:=by simp [hl]
 have h2:=h.2 _ _ hp ho (D6' hv ho)
 exact (World.cell?_of_block (h2.trans ho.symm)).trans hv
theorem AP.grown {B:Nat} {X Y:World} {row:Option Nat} (hg:X.grownBy Y row) (hr:∀ r,row=some r→∃ o:Obj,X.heap[r]?=some o∧o.isCells=false):AP B X Y:=by
 refine ⟨hg.size,fun k o _ hv hc=>(hg.block k (gE.1 hv).1 fun e=>?_).trans hv⟩
 obtain ⟨o',ho,hc'⟩:=hr _ e.symm
 rw [hv] at ho
 obtain rfl:=Option.some.inj ho
 rw [hc] at hc'
 cases hc'
theorem AP.stored {B:Nat} {X Y:World} (hs:X.heap.size≤Y.heap.size) (h:∀ (n:Nat) (o:Obj),n≠B→X.heap[n]?=some o→Y.heap[n]?=some o):AP B X Y:=⟨hs,fun k o hk ho _=>h k o hk ho⟩
theorem FG' {B:Nat} {X Y:World} (h:Below X.heap.size X Y):KeepsFrom B X Y:=⟨h.size,fun _ _ _ hv _=>(h.block _ (gE.1 hv).1).trans hv⟩
theorem Fo' {B b:Nat} {X Y:World} {cs:Array Value} {T:TypeId} {fr:Nat × Nat} (hs:X.heap.size≤Y.heap.size) (hb:X.heap[b]?=some (.cells cs T fr)) (h:∀ (n:Nat) (o:Obj),n≠b→X.heap[n]?=some o→Y.heap[n]?=some o):KeepsFrom B X Y:=by
 refine ⟨hs,fun k o _ hv hc=>h k o ?_ hv⟩
 rintro rfl
 rw [hb] at hv
 obtain rfl:=Option.some.inj hv
 cases hc
end Go.Proofs.YtbigkkjnhcpgiaaGreatDoor
