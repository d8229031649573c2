/-
  Contracts of the functions that the law calls, for every input (Txc).
-/
import Derived.Test.YtflopjfnppolgaaGreatDoorZ00
import Derived.Test.YtflopjfnppolgaaGreatDoorZ13
import Derived.Laws.Rows
import Derived.Laws.Tables
import Derived.Laws.CopyOwn
set_option linter.all false
set_option maxRecDepth 100000
set_option maxHeartbeats 40000000
namespace Go.Proofs.YtflopjfnppolgaaGreatDoor
open Lib (hid)
open Go.RowKit
open Vx
theorem DQ (k n:Nat):digs (k+1) n=UInt8.ofNat (48+n / 10^k%10)::digs k n:=by
 induction k generalizing n with
 | zero=>simp [digs]
 | succ k ih =>
   rw [digs,ih,digs,List.cons_append,Nat.div_div_eq_div_mul,Nat.pow_succ,Nat.mul_comm 10]
def Bc' (l:List UInt8):Array Value:=(l.map fun b=>Value.int .u8 (b.toNat:Nat)).toArray
theorem Cj (l:List UInt8):(Bc' l).size=l.length:=by simp [Bc']
def Hx' (w:World) (n:Nat) (e:Ending) (w':World):Prop:=e=.returned (.agg (Bc' (digs 19 n)))∧Below w.heap.size w w'
def CV' (w:World) (n k:Nat) (wr:World):Prop :=
  Below w.heap.size w wr∧wr.heap[w.heap.size]?=some (.cells (Bc' (List.replicate 19 0)) 154 (0,0)) ∧
    wr.heap[w.heap.size+1]?=some (.cells (Bc' (List.replicate (19 - k) 0++digs k n)) 154 (0,0))
theorem Hy (l:List UInt8) (p:Nat) (d:UInt8):(Bc' l).setIfInBounds p (.int .u8 (d.toNat:Nat))=Bc' (l.set p d):=by
 simp [Bc',List.map_set]
theorem Hy' {l:List UInt8} {p:Nat} (h:p<l.length):(Bc' l)[p]?=some (.int .u8 ((l.getD p 0).toNat:Nat)):=by
 simp [Bc',h]
theorem Hz' (n k p:Nat) (hp:19 - k=p+1):(List.replicate (19 - k) 0++digs k n).set p (UInt8.ofNat (48+n / 10^k%10))=List.replicate (19 - (k+1)) 0++digs (k+1) n:=by
 rw [DQ,hp,show 19 - (k+1)=p by omega,List.set_append_left _ _ (by simp)]
 rw [List.replicate_succ',List.set_append_right _ _ (by simp)]
 simp
theorem Gd' {w wr:World} {n k p:Nat} (h:CV' w n k wr) (hp:19 - k=p+1) :
   CV' w n (k+1) (wr.setCell ⟨w.heap.size+1,p,none⟩ (.int .u8 ((48+n / 10^k%10:Nat):Int))):=by
 obtain ⟨h1,h2,h3⟩:=h
 refine ⟨h1.setCell (p:=⟨w.heap.size+1,p,none⟩) (Nat.le_succ _) _,?_,?_⟩
 · rw [heap_setCell_other _ _ _ _ (by simp)];exact h2
 · have:=heap_setCell_same wr _ p _ _ (.int .u8 ((48+n / 10^k%10:Nat):Int)) h3
   rw [this,←Hz' n k p hp,←Hy]
   have e:((UInt8.ofNat (48+n / 10^k%10)).toNat:Nat)=48+n / 10^k%10:=by
     rw [UInt8.toNat_ofNat'];exact Nat.mod_eq_of_lt (by omega)
   rw [e]
theorem Ge:(Tryz.prog.info? 154).map (·.size)=some 19:=by kernel_rfl
theorem HA' {l:List UInt8} (h:l.length=19):(Tryz.prog.info? 154).map (·.size)=some (Bc' l).size:=Ge.trans (congrArg some ((Cj l).trans h).symm)
theorem Fb (l:List UInt8):(Bc' l).all (·.oneCell')=true:=by
 rw [Array.all_eq_true_iff_forall_mem]
 intro v hv
 simp [Bc'] at hv
 obtain ⟨b,_,rfl⟩:=hv
 rfl
theorem Fw {w:World} {n:Nat} (hn:n<18446744073709551616):Calls Tryz.prog 113 #[.int .u64 (n:Nat)] w (Hx' w n):=by
 have hst:CV' w n 0 ((w.alloc (.cells (Bc' (List.replicate 19 0)) 154)).alloc (.cells (Bc' (List.replicate 19 0)) 154)):=by
   obtain ⟨h1,h2,h3⟩:=DN' w (.cells (Bc' (List.replicate 19 0)) 154) (.cells (Bc' (List.replicate 19 0)) 154)
   exact ⟨h1,h2,by rw [h3];rfl⟩
 go_enter Tryz.func113,Tryz.ntmps113
 go_wp2_with fail
 go_loopw [0,4] (fun nv iv wr=>∃ k x:Nat,k≤19∧iv=.int .i64 (downI (19 - k))∧nv=.int .u64 ((x:Nat):Int)∧x<18446744073709551616∧Hid (x=n / 10^k)∧CV' w n k wr) (fun _ iv _=>(intOf iv+1).toNat)
 case atStart=>exact ⟨0,n,by omega,rfl,rfl,hn,by show _=_;rw [Nat.pow_zero,Nat.div_one],hst⟩
 case round =>
   obtain ⟨k,x,hk,rfl,rfl,hx,HX,hR⟩:=hrel
   clear hst
   obtain ⟨q,hq⟩:=eY (19 - k)
   rw [hq]
   match q,hq with
   | 0,hq =>
     obtain rfl:k=19:=by omega
     simp only [downI]
     have hg2:=hR.2.1
     have hg3:wr.heap[w.heap.size+1]?=some (.cells (Bc' (digs 19 n)) 154 (0,0)):=by
       have h:=hR.2.2
       rw [Nat.sub_self,List.replicate_zero,List.nil_append] at h
       exact h
     have hi1:=HA' (Bx' 19 n)
     have HI:=hid hi1
     have HR:=hid hR
     have HG2:=hid hg2;have HG3:=hid hg3
     clear hi1 hR hg2 hg3
     go_upto_region 7 with fail
     go_step
     refine wpList_load_row rfl 154 (.tmp 3) rfl (w.heap.size+1) rfl _ _ _ _ HG3.out Tryz.underlying154 rfl HI.out ?_
     refine wpList_store_row rfl 154 (.tmp 2) (.tmp 17) rfl w.heap.size _ rfl rfl _ _ HG2.out HI.out ((Cj _).trans ((Cj _).trans (Bx' 19 n)).symm) (Fb _) ?_
     go_wp2_with fail
     have hg4:=setRow_heap wr w.heap.size _ (Bc' (digs 19 n)) _ _ HG2.out
     refine bP (results_cell_row rfl _ _ w.heap.size _ _ _ _ rfl hg4 Tryz.underlying154 rfl HI.out) rfl ⟨rfl,below_setRow HR.out.1 (nL _) _⟩
   | p+1,hq =>
     simp only [downI]
     have hp:((p:Nat):Int)<19:=by omega
     have hcell:wr.cell? ⟨w.heap.size+1,p,none⟩=some (.int .u8 0):=by
       rw [cR wr _ p _ _ _ hR.2.2,Hy' (by simp [Bx'];omega)]
       rw [hq,List.getD_eq_getElem?_getD,List.getElem?_append_left (by simp),List.getElem?_replicate,if_pos (Nat.lt_succ_self p)]
       rfl
     have hfr:wr.frozen? ⟨w.heap.size+1,p,none⟩=false:=fR wr _ p _ _ hR.2.2
     have HQ:=hid hq
     have HR:=hid (Gd' hR hq)
     rw [←HX.out] at HR
     clear hq hR
     go_wp2_with fail
     go_roundw
     case rel =>
       refine ⟨k+1,x / 10,by have:=HQ.out;omega,?_,by go_num,by omega,?_,HR.out⟩
       · rw [show 19 - (k+1)=p by have:=HQ.out;omega];exact congrArg (Value.int .i64) (AM' p).symm
       · show _=_;rw [HX.out,Nat.pow_succ,Nat.div_div_eq_div_mul]
     case measure=>simp [intOf]
end Go.Proofs.YtflopjfnppolgaaGreatDoor
