/-
  Contracts of the functions that the law calls, for every input (Shift).
-/
import Derived.Test.YtflopjfnppolgaaGreatDoorZ00
import Derived.Test.YtflopjfnppolgaaGreatDoorZ03
import Derived.Laws.Bits64b
import Derived.StillTailTactics
import Derived.BigRegion
set_option linter.all false
set_option maxRecDepth 100000
set_option maxHeartbeats 40000000
namespace Go.Proofs.YtflopjfnppolgaaGreatDoor
open Lib (hid)
open Go.RowKit
open Vx
theorem BN' {r:Nat} (h:r≤64):W=2^r*2^(64 - r):=by rw [←Nat.pow_add,AT'];congr 1;omega
theorem Bi (r:Nat):((2:Int)^r)=((2^r:Nat):Int):=by simp
theorem GG {w r:Nat} (hr:r≤64):lo (w*2^r)=2^r*(w%2^(64 - r)):=by
 show w*2^r%W=_
 rw [BN' hr,Nat.mul_comm w,Nat.mul_mod_mul_left]
theorem GG' {d w r:Nat} (hd:d<2^r) (hr:r≤64) (hw:d<W):bits .or .u64 ((d:Nat):Int) (IntKind.u64.wrap (((w:Nat):Int)*2^r))=((d+lo (w*2^r):Nat):Int):=by
 have e1:IntKind.u64.wrap (((w:Nat):Int)*2^r)=((lo (w*2^r):Nat):Int):=by
   rw [Bi,←Int.natCast_mul,IntKind.wrap_u64];unfold lo;omega
 rw [e1]
 have h:=bits_or_u64_nat d (lo (w*2^r)) hw (CE _)
 rw [h]
 congr 1
 rw [GG hr,Nat.or_comm,←Nat.two_pow_add_eq_or_of_lt hd,Nat.add_comm]
theorem Ig {d w r:Nat} (hd:d<2^r) (hr:r≤64):d+lo (w*2^r)<W:=by
 rw [GG hr,BN' hr]
 have h1:w%2^(64 - r)+1≤2^(64 - r):=Nat.mod_lt _ (Nat.two_pow_pos _)
 have h2:=mL (2^r) h1
 rw [Nat.mul_add] at h2
 omega
theorem GH {w r:Nat} (hw:w<W) (hr:r≤64):hi (w*2^r)<W:=by
 show w*2^r / W<W
 rw [Nat.div_lt_iff_lt_mul W_pos]
 have h1:w*2^r<W*2^r:=Nat.mul_lt_mul_of_pos_right hw (Nat.two_pow_pos r)
 have h2:W*2^r≤W*W:=mL _ (by rw [AT'];exact Nat.pow_le_pow_right (by omega) hr)
 omega
theorem IL' {w r:Nat} (hr:r≤64):((w:Nat):Int) / 2^(64 - r)=((hi (w*2^r):Nat):Int):=by
 rw [Bi,←Int.natCast_ediv]
 congr 1
 show _=w*2^r / W
 rw [BN' hr,Nat.mul_comm w,Nat.mul_div_mul_left _ _ (Nat.two_pow_pos r)]
theorem IM {cs:List Nat} {o n j:Nat} (h:j<n):W^j*cs.getD (o+j) 0≤seg cs o n:=by
 obtain ⟨k,rfl⟩:∃ k,n=j+(1+k):=⟨n - j - 1,by omega⟩
 rw [AB',AB']
 have h1:seg cs (o+j) 1=cs.getD (o+j) 0:=by simp [seg]
 rw [h1,Nat.mul_add]
 omega
def IM' (w:World) (a q r N k:Nat) (wr:World):Prop :=
  ∃ cs,Az w.heap.size (mk w N) wr∧AK' wr w.heap.size cs∧cs.length=N∧seg cs 0 N=a%W^k*2^r*W^q∧∀ j,k+q<j→cs.getD j 0=0
theorem Hn {cs:List Nat} {a q r N k:Nat} (h:seg cs 0 N=a%W^k*2^r*W^q) (hN:k+q<N):cs.getD (k+q) 0<2^r:=by
 have h1:=IM (cs:=cs) (o:=0) hN
 rw [h,Nat.zero_add] at h1
 have h2:a%W^k*2^r*W^q<W^(k+q)*2^r:=by
   have this:a%W^k<W^k:=Nat.mod_lt _ (AH' k)
   have h3:a%W^k*2^r*W^q<W^k*2^r*W^q:=Nat.mul_lt_mul_of_pos_right (Nat.mul_lt_mul_of_pos_right this (Nat.two_pow_pos r)) (AH' q)
   rwa [Nat.pow_add,Nat.mul_right_comm (W^k)]
 exact Nat.lt_of_mul_lt_mul_left (Nat.lt_of_le_of_lt h1 h2)
theorem Hn' {cs:List Nat} {a q r N k d:Nat} (hl:cs.length=N) (hN:k+q+1<N) (h:seg cs 0 N=a%W^k*2^r*W^q) (hz:∀ j,k+q<j→cs.getD j 0=0) (hd:cs.getD (k+q) 0=d) :
   seg ((cs.set (k+q) (d+lo (word a k*2^r))).set (k+q+1) (hi (word a k*2^r))) 0 N=a%W^(k+1)*2^r*W^q:=by
 have e1:=CK' (cs:=cs) (o:=0) (n:=N) (i:=k+q) (v:=d+lo (word a k*2^r)) (by omega) (by omega)
 have e2:=CK' (cs:=cs.set (k+q) (d+lo (word a k*2^r))) (o:=0) (n:=N) (i:=k+q+1) (v:=hi (word a k*2^r)) (by omega) (by rw [List.length_set];omega)
 simp only [Nat.zero_add] at e1 e2
 rw [getD_set,if_neg (by omega),hz _ (by omega)] at e2
 rw [hd] at e1
 have e3:=B5' (word a k*2^r)
 rw [AB,Nat.add_mul,Nat.add_mul,←h]
 have e4:W^k*word a k*2^r*W^q=W^(k+q)*(word a k*2^r):=by rw [Nat.pow_add];simp only [Nat.mul_assoc,Nat.mul_comm (W^q),Nat.mul_left_comm]
 rw [e4]
 generalize word a k*2^r=p at *
 have e5:W^(k+q)*p=W^(k+q)*lo p+W^(k+q+1)*hi p:=by
   rw [Nat.pow_succ,Nat.mul_assoc,←Nat.mul_add,e3]
 rw [Nat.mul_add] at e1
 omega
theorem Dk' {w:World} {a n:Nat} {va:Value} (ha:Nt w va a) (hs:len a≤4398046511104) (hn:n≤70368744177664) :
   Calls Tryz.prog 76 #[va,.int .u64 (n:Nat)] w (AI w (a*2^n)):=by
 obtain ⟨A,c,rfl,hca,hca2,hz,hp⟩:=id ha
 obtain ⟨q,hq⟩:=eX (n / 64)
 obtain ⟨r,hr⟩:=eX (n%64)
 have e1:((n:Nat):Int) / 64=((q:Nat):Int):=by omega
 have e2:((n:Nat):Int)%64=((r:Nat):Int):=by omega
 have hr64:r<64:=by omega
 have hnq:n=64*q+r:=by omega
 have HN:=hid hnq;clear hnq hq hr
 have hq2:q≤1099511627776:=by omega
 have hmk:=BV ((len a:Nat)+(q:Nat)+1) (len a+q+1) (by omega) (by omega)
 have hms:=BD w (len a+q+1)
 have hmb:=Ba' w (len a+q+1)
 go_enter Tryz.func76,Tryz.ntmps76
 go_wp2_with fail
 go_loopw [23] (fun i wr=>∃ k:Nat,k≤len a∧i=.int .i64 k∧IM' w a q r (len a+q+1) k wr) (fun i _=>len a - (intOf i).toNat)
 case atStart=>exact ⟨0,by omega,rfl,_,Az.refl _ _,B7' _ _,by simp,by rw [Cx (fun j _=>AW _ _)];simp [Nat.mod_one],fun j _=>AW _ _⟩
 case round =>
   obtain ⟨k,hk,rfl,cs,hw1,hr1,hl1,hseg,hzero⟩:=hrel
   have hbw:=hw1.below (B:=w.heap.size) (by omega) (nL _)
   by_cases hlt:k<len a
   · obtain ⟨g,o,rfl,hg,hcell⟩:=hp (Ak.1 (by omega))
     have h1:wr.cell? ⟨g,o+k,none⟩=some (.int .u64 (word a k:Nat)):=((hmb.trans hbw).cell (p:=⟨g,o+k,none⟩) hg).trans (hcell k hlt)
     have h2:=hr1.cell (i:=k+q) (by rw [hl1];omega)
     have h3:=hr1.frozen (k+q)
     have hdr:=Hn hseg (by omega)
     have hdw:=hr1.getD_lt (k+q)
     generalize hdd:cs.getD (k+q) 0=d at h2 hdr hdw
     have h4:=hr1.cell (i:=k+q+1) (by rw [hl1];omega)
     have h5:=hr1.frozen (k+q+1)
     generalize cs.getD (k+q+1) 0=d2 at h4
     have HOR:=hid (GG' (w:=word a k) hdr (by omega) hdw)
     have HHI:=hid (IL' (w:=word a k) (r:=r) (by omega))
     have HD:=hid hdd;have HS:=hid hseg;have HL:=hid hl1;have HZ:=hid hzero
     have HT:=hid hdr
     clear hcell hdd hseg hl1 hzero hdr
     go_wp2_with fail
     go_roundw
     case rel =>
       refine ⟨k+1,by omega,by go_num,_,(hw1.trans (Az.set _ _ _ _)).trans (Az.set _ _ _ _),?_,?_,Hn' HL.out (by omega) HS.out HZ.out HD.out,?_⟩
       · rw [HOR.out,HHI.out]
         exact (hr1.set (Ig HT.out (by omega))).set (GH (word_lt _ _) (by omega))
       · rw [List.length_set,List.length_set,HL.out]
       · intro j hj
         rw [getD_set,if_neg (by omega),getD_set,if_neg (by omega),HZ.out _ (by omega)]
     case measure=>simp [intOf];omega
   · obtain rfl:k=len a:=by omega
     have HS:=hid hseg;have HL:=hid hl1
     clear hseg hl1 hzero
     go_wp2_with fail
     refine (AV' (hr1.reads (o:=0) (by rw [HL.out];omega) (nL _) (by omega))).mono ?_
     rintro e w4 ⟨v,rfl,hv,rfl⟩
     go_wp2_with fail
     go_ret
     refine Be.made ⟨v,rfl,hv,rfl⟩ (hmb.trans hbw) hr1.lt ?_
     rw [HS.out,AY' (nL _),HN.out,Nat.pow_add,AT',←Nat.pow_mul,Nat.mul_assoc,Nat.mul_comm (2^r)]
end Go.Proofs.YtflopjfnppolgaaGreatDoor
