/-
  Contracts of the functions that the law calls, for every input (Txc).
-/
import Derived.Test.YtbigkkjnhcpgiaaGreatDoorQ00
import Derived.Test.YtbigkkjnhcpgiaaGreatDoorQ13
import Derived.Laws.Rows
import Derived.Laws.Tables
import Derived.Laws.CopyOwn
set_option linter.all false
set_option maxRecDepth 100000
set_option maxHeartbeats 40000000
namespace Go.Proofs.YtbigkkjnhcpgiaaGreatDoor
open Lib (hid)
open Go.RowKit
open Vx
theorem Cp' (k n:Nat):digs (k+1) n=UInt8.ofNat (48+n / 10^k%10)::digs k n:=by
 induction k generalizing n with
 | zero=>simp [digs]
 | succ k ih =>
   rw [digs,ih,digs,List.cons_append,Nat.div_div_eq_div_mul,Nat.pow_succ,Nat.mul_comm 10]
def Bd' (l:List UInt8):Array Value:=(l.map fun b=>Value.int .u8 (b.toNat:Nat)).toArray
theorem Cj' (l:List UInt8):(Bd' l).size=l.length:=by simp [Bd']
def Ib (w:World) (n:Nat) (e:Ending) (w':World):Prop:=e=.returned (.agg (Bd' (digs 19 n)))∧Below w.heap.size w w'
def CW' (w:World) (n k:Nat) (wr:World):Prop :=
  Below w.heap.size w wr∧wr.heap[w.heap.size]?=some (.cells (Bd' (List.replicate 19 0)) 124 (0,0)) ∧
    wr.heap[w.heap.size+1]?=some (.cells (Bd' (List.replicate (19 - k) 0++digs k n)) 124 (0,0))
theorem Ib' (l:List UInt8) (p:Nat) (d:UInt8):(Bd' l).setIfInBounds p (.int .u8 (d.toNat:Nat))=Bd' (l.set p d):=by
 simp [Bd',List.map_set]
theorem Ic {l:List UInt8} {p:Nat} (h:p<l.length):(Bd' l)[p]?=some (.int .u8 ((l.getD p 0).toNat:Nat)):=by
 simp [Bd',h]
theorem Ic' (n k p:Nat) (hp:19 - k=p+1):(List.replicate (19 - k) 0++digs k n).set p (UInt8.ofNat (48+n / 10^k%10))=List.replicate (19 - (k+1)) 0++digs (k+1) n:=by
 rw [Cp',hp,show 19 - (k+1)=p by omega,List.set_append_left _ _ (by simp)]
 rw [List.replicate_succ',List.set_append_right _ _ (by simp)]
 simp
theorem Gi {w wr:World} {n k p:Nat} (h:CW' w n k wr) (hp:19 - k=p+1) :
   CW' w n (k+1) (wr.setCell ⟨w.heap.size+1,p,none⟩ (.int .u8 ((48+n / 10^k%10:Nat):Int))):=by
 obtain ⟨h1,h2,h3⟩:=h
 refine ⟨h1.setCell (p:=⟨w.heap.size+1,p,none⟩) (Nat.le_succ _) _,?_,?_⟩
 · rw [heap_setCell_other _ _ _ _ (by simp)];exact h2
 · have:=heap_setCell_same wr _ p _ _ (.int .u8 ((48+n / 10^k%10:Nat):Int)) h3
   rw [this,←Ic' n k p hp,←Ib']
   have e:((UInt8.ofNat (48+n / 10^k%10)).toNat:Nat)=48+n / 10^k%10:=by
     rw [UInt8.toNat_ofNat'];exact Nat.mod_eq_of_lt (by omega)
   rw [e]
theorem Gi':(Tryz.prog.info? 124).map (·.size)=some 19:=by kernel_rfl
theorem Id {l:List UInt8} (h:l.length=19):(Tryz.prog.info? 124).map (·.size)=some (Bd' l).size:=Gi'.trans (congrArg some ((Cj' l).trans h).symm)
theorem E7 (l:List UInt8):(Bd' l).all (·.oneCell')=true:=by
 rw [Array.all_eq_true_iff_forall_mem]
 intro v hv
 simp [Bd'] at hv
 obtain ⟨b,_,rfl⟩:=hv
 rfl
theorem Fy' {w:World} {n:Nat} (hn:n<18446744073709551616):Calls Tryz.prog 103 #[.int .u64 (n:Nat)] w (Ib w n):=by
 have hst:CW' w n 0 ((w.alloc (.cells (Bd' (List.replicate 19 0)) 124)).alloc (.cells (Bd' (List.replicate 19 0)) 124)):=by
   obtain ⟨h1,h2,h3⟩:=CV w (.cells (Bd' (List.replicate 19 0)) 124) (.cells (Bd' (List.replicate 19 0)) 124)
   exact ⟨h1,h2,by rw [h3];rfl⟩
 go_enter Tryz.func103,Tryz.ntmps103
 go_wp2_with fail
 go_loopw [0,4] (fun nv iv wr=>∃ k x:Nat,k≤19∧iv=.int .i64 (downI (19 - k))∧nv=.int .u64 ((x:Nat):Int)∧x<18446744073709551616∧Hid (x=n / 10^k)∧CW' w n k wr) (fun _ iv _=>(intOf iv+1).toNat)
 case atStart=>exact ⟨0,n,by omega,rfl,rfl,hn,by show _=_;rw [Nat.pow_zero,Nat.div_one],hst⟩
 case round =>
   obtain ⟨k,x,hk,rfl,rfl,hx,HX,hR⟩:=hrel
   clear hst
   obtain ⟨q,hq⟩:=eY (19 - k)
   rw [hq]
   match q,hq with
   | 0,hq =>
     obtain rfl:k=19:=by omega
     simp only [downI]
     have hg2:=hR.2.1
     have hg3:wr.heap[w.heap.size+1]?=some (.cells (Bd' (digs 19 n)) 124 (0,0)):=by
       have h:=hR.2.2
       rw [Nat.sub_self,List.replicate_zero,List.nil_append] at h
       exact h
     have hi1:=Id (Bj' 19 n)
     have HI:=hid hi1
     have HR:=hid hR
     have HG2:=hid hg2;have HG3:=hid hg3
     clear hi1 hR hg2 hg3
     go_upto_region 7 with fail
     go_step
     refine wpList_load_row rfl 124 (.tmp 3) rfl (w.heap.size+1) rfl _ _ _ _ HG3.out Tryz.underlying124 rfl HI.out ?_
     refine wpList_store_row rfl 124 (.tmp 2) (.tmp 17) rfl w.heap.size _ rfl rfl _ _ HG2.out HI.out ((Cj' _).trans ((Cj' _).trans (Bj' 19 n)).symm) (E7 _) ?_
     go_wp2_with fail
     have hg4:=setRow_heap wr w.heap.size _ (Bd' (digs 19 n)) _ _ HG2.out
     refine bP (results_cell_row rfl _ _ w.heap.size _ _ _ _ rfl hg4 Tryz.underlying124 rfl HI.out) rfl ⟨rfl,below_setRow HR.out.1 (nL _) _⟩
   | p+1,hq =>
     simp only [downI]
     have hp:((p:Nat):Int)<19:=by omega
     have hcell:wr.cell? ⟨w.heap.size+1,p,none⟩=some (.int .u8 0):=by
       rw [cR wr _ p _ _ _ hR.2.2,Ic (by simp [Bj'];omega)]
       rw [hq,List.getD_eq_getElem?_getD,List.getElem?_append_left (by simp),List.getElem?_replicate,if_pos (Nat.lt_succ_self p)]
       rfl
     have hfr:wr.frozen? ⟨w.heap.size+1,p,none⟩=false:=fR wr _ p _ _ hR.2.2
     have HQ:=hid hq
     have HR:=hid (Gi hR hq)
     rw [←HX.out] at HR
     clear hq hR
     go_wp2_with fail
     go_roundw
     case rel =>
       refine ⟨k+1,x / 10,by have:=HQ.out;omega,?_,by go_num,by omega,?_,HR.out⟩
       · rw [show 19 - (k+1)=p by have:=HQ.out;omega];exact congrArg (Value.int .i64) (AJ' p).symm
       · show _=_;rw [HX.out,Nat.pow_succ,Nat.div_div_eq_div_mul]
     case measure=>simp [intOf]
end Go.Proofs.YtbigkkjnhcpgiaaGreatDoor
