/-
  Contracts of the functions that the law calls, for every input (Txe).
-/
import Derived.Test.YtflopjfnppolgaaGreatDoorZ00
import Derived.Test.YtflopjfnppolgaaGreatDoorZ16
import Derived.Deep.LoopGhost
import Derived.OwnWalk
set_option linter.all false
set_option maxRecDepth 100000
set_option maxHeartbeats 40000000
namespace Go.Proofs.YtflopjfnppolgaaGreatDoor
open Lib (hid)
open Go.RowKit
open Vx
theorem Fw' (a b n:Nat):digs (a+b) n=digs a (n / 10^b)++digs b n:=by
 induction b generalizing n with
 | zero=>simp [digs]
 | succ b ih=>rw [←Nat.add_assoc,digs,ih,digs,Nat.div_div_eq_div_mul,Nat.pow_succ,Nat.mul_comm 10,List.append_assoc]
theorem HC' (k n:Nat):digs k (n%10^k)=digs k n:=by
 induction k generalizing n with
 | zero=>rfl
 | succ k ih =>
   rw [digs,digs]
   have e1:n%10^(k+1) / 10=n / 10%10^k:=by
     rw [Nat.pow_succ,Nat.mul_comm,Nat.mod_mul_right_div_self]
   have e2:n%10^(k+1)%10=n%10:=by
     rw [Nat.pow_succ,Nat.mod_mul_left_mod]
   rw [e1,e2,ih]
def BF' (l:List UInt8):List UInt8:=l.dropWhile (· == 48)
theorem Ge' {k n:Nat} (h:n<10^k):BF' (digs (k+1) n)=BF' (digs k n):=by
 rw [DQ,Nat.div_eq_of_lt h]
 rfl
theorem Ex {k n:Nat} (h:n<10^k) (j:Nat):BF' (digs (k+j) n)=BF' (digs k n):=by
 induction j with
 | zero=>rfl
 | succ j ih =>
   rw [←Nat.add_assoc,Ge',ih]
   exact ltl h (Nat.pow_le_pow_right (by omega) (by omega))
theorem GQ' {k m n:Nat} (h1:n<10^k) (h2:n<10^m):BF' (digs k n)=BF' (digs m n):=by
 rcases Nat.le_total k m with h | h
 · obtain ⟨j,rfl⟩:=Nat.exists_eq_add_of_le h
   exact (Ex h1 j).symm
 · obtain ⟨j,rfl⟩:=Nat.exists_eq_add_of_le h
   exact Ex h2 j
theorem IQ' (n:Nat):n<10^(20*len n):=by
 refine ltl (Ao n) ?_
 rw [Nat.pow_mul]
 exact Nat.pow_le_pow_left (by unfold W;decide) _
def AZ' (n:Nat):List UInt8:=if BF' (digs (20*len n) n)=[] then [48] else BF' (digs (20*len n) n)
theorem IR {k n:Nat} (h:n<10^k):AZ' n=if BF' (digs k n)=[] then [48] else BF' (digs k n):=by
 unfold AZ'
 rw [GQ' (IQ' n) h]
def By (n:Nat):Nat→List Value
  | 0=>[]
  | j+1=>By n j++Lib.byteCells (digs 19 (n / 10^(19*j)))
def GR' (w:World) (n j x:Nat) (cv rv:Value) (wr:World):Prop :=
  Hid (x=n / 10^(19*j))∧rv=B6' (some ⟨w.heap.size,0,none⟩) (len n) x∧(∃ cs,AK' wr w.heap.size cs∧cs.length=len n∧Hid (seg cs 0 (len x)=x)) ∧
    wr.ownsRow (w.heap.size+1) 154 19 cv j (By n j)∧Below w.heap.size w wr
theorem GS:(Tryz.prog.info? 154).map (fun i=>(i.zero,i.size,i.bytes))=some (some (.agg (Bc' (List.replicate 19 0))),19,19):=by kernel_rfl
theorem Fx {n j:Nat} (h:0<n / 10^(19*j)):j≤2*len n:=by
 have h1:10^(19*j)≤n:=by
   rcases Nat.lt_or_ge n (10^(19*j)) with h2 | h2
   · rw [Nat.div_eq_of_lt h2] at h;omega
   · exact h2
 have h2:=Ao n
 rw [AT',←Nat.pow_mul] at h2
 have h3:(2:Nat)^(63*j)≤10^(19*j):=by
   rw [Nat.pow_mul,Nat.pow_mul]
   exact Nat.pow_le_pow_left (by decide) _
 have h4:(2:Nat)^(63*j)<2^(64*len n):=by omega
 have:=(Nat.pow_lt_pow_iff_right (by omega)).1 h4
 omega
theorem Fx' (l:List UInt8):(Bc' l).toList=Lib.byteCells l:=by simp [Bc',Lib.byteCells]
theorem Ii':(10000000000000000000:Nat)=10^19:=by decide
theorem GS' {n j p:Nat} (hp:p<j) {i:Nat} (hi:i<19):(By n j)[19*p+i]?=(Lib.byteCells (digs 19 (n / 10^(19*p))))[i]?:=by
 have hl:∀ k,(By n k).length=19*k:=by
   intro k
   induction k with
   | zero=>rfl
   | succ k ih=>rw [By,List.length_append,ih,Lib.byteCells_length,Bx'];omega
 induction j with
 | zero=>omega
 | succ j ih =>
   rw [By]
   rcases Nat.lt_or_ge p j with h | h
   · rw [List.getElem?_append_left (by rw [hl];omega)]
     exact ih h
   · obtain rfl:p=j:=by omega
     rw [List.getElem?_append_right (by rw [hl];omega),hl,Nat.add_sub_cancel_left]
theorem GT {cs:List Nat} (h:∀ d∈cs,d<W) {n z:Nat} (hz:seg cs 0 n=z):seg cs 0 (len z)=z:=by
 have h1:len z≤n:=AA (by rw [←hz];exact Br' h 0 n)
 obtain ⟨k,rfl⟩:=Nat.exists_eq_add_of_le h1
 have h2:=AB' cs 0 (len z) k
 rw [hz] at h2
 have h3:=Br' h 0 (len z)
 have h4:=Ao z
 generalize seg cs (0+len z) k=q at h2
 have h5:z%W^len z=seg cs 0 (len z):=by
   have:z%W^len z=(seg cs 0 (len z)+W^len z*q)%W^len z:=congrArg (· % W^len z) h2
   rw [this,Nat.add_mul_mod_self_left,Nat.mod_eq_of_lt h3]
 rw [←h5,Nat.mod_eq_of_lt h4]
theorem EK (l:List UInt8):∀ u∈Lib.byteCells l,u.oneCell'=true:=by
 intro u hu
 simp [Lib.byteCells] at hu
 obtain ⟨b,_,rfl⟩:=hu
 rfl
theorem IR' {w wo w2 w3:World} (h1:Below w.heap.size w wo) (h2:Below wo.heap.size wo w2) (h3:Below wo.heap.size w2 w3):Below w.heap.size w w3:=Ae' h1 (h2.trans h3)
theorem GT' (l:List Value):∀ (k:Nat) (cs:Array Value),k+l.length≤cs.size →
   ((l.zipIdx k).foldl (fun cs (x:Value × Nat)=>cs.setIfInBounds x.2 x.1) cs).toList=cs.toList.take k++l++cs.toList.drop (k+l.length):=by
 induction l with
 | nil=>intro k cs _;simp
 | cons v l ih =>
   intro k cs h
   simp only [List.length_cons] at h
   rw [List.zipIdx_cons,List.foldl_cons,ih (k+1) _ (by simp;omega)]
   simp only [Array.toList_setIfInBounds,List.length_cons]
   have h1:k<cs.toList.length:=by simp;omega
   rw [List.take_set,List.drop_set_of_lt (by omega)]
   have h2:(cs.toList.take (k+1)).set k v=cs.toList.take k++[v]:=by
     rw [List.take_succ_eq_append_getElem h1,List.set_append_right _ _ (by simp;omega)]
     simp [show min k cs.size=k by omega]
   rw [h2,show k+1+l.length=k+(l.length+1) by omega]
   simp
theorem HD' {R Z:Array Value} (hR:R.size=19) (hZ:Z.size=19):Array.foldl (fun (cs:Array Value) (x:Value × Nat)=>cs.setIfInBounds x.2 x.1) Z R.zipIdx 0 19=R:=by
 have h:=GT' R.toList 0 Z (by simp;omega)
 have e:(19:Nat)=R.zipIdx.size:=by simp [hR]
 rw [e]
 apply Array.ext'
 rw [←Array.foldl_toList,Array.toList_zipIdx,h]
 simp [hR,hZ]
theorem Gf' {w:World} {n:Nat} {va:Value} (ha:Nt w va n) (hs:len n≤1099511627776) (h0:0<n) :
   Calls Tryz.prog 74 #[va] w (fun e w'=>e=.returned (.string ⟨(AZ' n).toArray⟩)∧Below w.heap.size w w'):=by
 obtain ⟨i0,hi,hz0,hz1,hz2⟩:=info_parts GS
 go_enter Tryz.func74,Tryz.ntmps74
 go_wp2_with fail
 refine (BM' ha (nT hs (by decide))).mono ?_
 rintro e w1 (⟨hn0,_⟩ | ⟨_,cs0,rfl,hr0,hl0,hseg0,b1⟩)
 · omega
 go_wp2_with fail
 have hst:GR' w n 0 n (.slice none 0 0) (.slice (some ⟨w.heap.size,0,none⟩) (len n) (len n)) w1:=by
   refine ⟨by show _=_;rw [Nat.mul_zero,Nat.pow_zero,Nat.div_one],by rw [B6',if_neg (by omega)],⟨cs0,hr0,hl0,hseg0⟩,⟨rfl,.inl ⟨rfl,rfl⟩⟩,b1⟩
 clear hr0 hl0 hseg0 b1
 go_loopg [3,4] n (fun k cv rv wr=>∃ j,j+k≤n∧j≤2*len n+1∧GR' w n j k cv rv wr)
 case atStart=>exact ⟨0,by omega,by omega,hst⟩
 case round =>
   obtain ⟨j,hj,hjm,HX,rfl,⟨cs,hr,hcl,HSG⟩,hown,hb⟩:=hrel
   clear hst
   rcases Nat.eq_zero_or_pos gk with hx | hx
   · subst hx
     obtain ⟨wo,rfl⟩:=eX (wr:World)
     have hj0:n<10^(19*j):=by
       have h1:=HX.out
       rcases Nat.lt_or_ge n (10^(19*j)) with h2 | h2
       · exact h2
       · have:=Nat.div_pos h2 (Nat.pow_pos (by decide));omega
     have hj1:0<j:=by
       rcases Nat.eq_zero_or_pos j with h2 | h2
       · subst h2;simp at hj0;omega
       · exact h2
     have htr:B6' (some ⟨w.heap.size,0,none⟩) (len n) 0=.slice none 0 0:=rfl
     rw [htr]
     clear htr hr HSG
     obtain ⟨hxl,hcase⟩:=id hown
     rcases hcase with ⟨_,h2⟩ | ⟨g',cap,cur,rfl,hgB,hgg,hjc,hcm,hcs,htk⟩
     · omega
     have HJ:=hid hj0
     clear hj0 HX hxl hgg hcs htk cur
     have hji:(0:Int)<((j:Nat):Int):=by omega
     obtain ⟨wb,hwb⟩:=eX (wo.alloc (.cells #[.pointer none,.slice none 0 0] 159))
     have hbb:Lib.IsBuilder 159 5 wo.heap.size wo.heap.size (Lib.byteCells (digs (19*(j - j)) (n / 10^(19*j)))) wb:=by
       refine .inl ⟨nL _,.slice none 0 0,by rw [hwb];exact hA_ wo _,?_,by simp [Value.ownBlock]⟩
       rw [Nat.sub_self,Nat.mul_zero]
       exact ⟨rfl,.inl ⟨rfl,rfl⟩⟩
     have hb1:Below wo.heap.size wo wb:=by rw [hwb];exact (Below.refl _ _).alloc (nL _) _
     have HBo:=hid hb
     go_wp2_with fail
     rw [←hwb]
     clear hwb
     have hcells:=hown.cells (g:=g') rfl
     have HCL:=hid hcells
     have hgo:=(hown.lt g' rfl).2
     clear hcells hown hb
     go_loopw [6] (fun iv w2=>∃ p:Nat,p≤j∧iv=.int .i64 (downI p)∧Lib.IsBuilder 159 5 wo.heap.size wo.heap.size (Lib.byteCells (digs (19*(j - p)) (n / 10^(19*p)))) w2∧Below wo.heap.size wo w2) (fun iv _=>(intOf iv+1).toNat)
     case atStart=>exact ⟨j,nL _,congrArg (Value.int .i64) (AM' j).symm,hbb,hb1⟩
     case round =>
       obtain ⟨p,hp,rfl,hbd,hb2⟩:=hrel
       clear hbb hb1
       match p,hp,hbd with
       | 0,hp,hbd =>
         simp only [downI]
         rw [Nat.sub_zero,Nat.mul_zero,Nat.pow_zero,Nat.div_one] at hbd
         have HS:=hid (Tryz.Builder_String_any _ _ _ _ hbd hb2.size)
         have HB2:=hid hb2
         have HD:=hid (IR HJ.out)
         clear hbd hb2
         generalize digs (19*j) n=l at HS HD
         go_wp2_with fail
         refine (HS.out).mono ?_
         rintro e w3 ⟨rfl,b3⟩
         have HT:=hid (Tryz.strings_TrimLeft_one ⟨l.toArray⟩ 48 (by decide) w3)
         have hdz:Lib.trimLeftB l 48=BF' l:=rfl
         have e2:(Lib.trimLeftB (⟨l.toArray⟩:ByteArray).data.toList 48)=BF' l:=hdz
         rw [e2] at HT
         clear e2 hdz
         generalize BF' l=z at HT HD
         have HF:=hid (IR' HBo.out HB2.out b3)
         clear b3 HS
         go_wp2_with fail
         refine (HT.out).mono ?_
         rintro e w4 ⟨rfl,rfl⟩
         by_cases hz:z=[]
         · have HDZ:Hid (AZ' n=[48]):=by show _=_;rw [HD.out,if_pos hz]
           clear HD
           subst hz
           go_wp2_with fail
           go_ret
           exact ⟨by rw [HDZ.out];rfl,HF.out⟩
         · have ht1:(z.isEmpty)=false:=by cases z <;> simp_all
           have HZ:=hid hz
           go_wp2_with fail
           go_ret
           exact ⟨by rw [HD.out,if_neg HZ.out];rfl,HF.out⟩
       | q+1,hp,hbd =>
         simp only [downI]
         have hq:((q:Nat):Int)<((j:Nat):Int):=by omega
         have hnews:∀ (i:Nat) u,(Lib.byteCells (digs 19 (n / 10^(19*q))))[i]?=some u→wr.cell? ((⟨g',q*19,none⟩:Addr).add i)=some u:=by
           intro i u hu
           have hi19:i<19:=by
             have:=(List.getElem?_eq_some_iff.1 hu).1
             rwa [Lib.byteCells_length,Bx'] at this
           have hadd:(⟨g',q*19,none⟩:Addr).add i=⟨g',q*19+i,none⟩:=by unfold Addr.add;split <;> simp_all
           have hadd2:(⟨g',0,none⟩:Addr).add (19*q+i)=⟨g',19*q+i,none⟩:=by unfold Addr.add;split <;> simp_all
           have h1:=HCL.out (19*q+i) u (by rw [GS' (by omega) hi19];exact hu)
           rw [hadd2,Nat.mul_comm] at h1
           rw [hadd]
           exact (hb2.cell (p:=⟨g',q*19+i,none⟩) hgo).trans h1
         have HW:=hid (DC' _ _ _ ⟨g',q*19,none⟩ 19 19 _ wr hbd (by rw [Lib.byteCells_length,Bx']) hnews hgo (EK _) (by rw [Lib.byteCells_length,Bx'];omega) hb2.size)
         have hbytes:Lib.byteCells (digs (19*(j - (q+1))) (n / 10^(19*(q+1))))++Lib.byteCells (digs 19 (n / 10^(19*q)))=Lib.byteCells (digs (19*(j - q)) (n / 10^(19*q))):=by
           rw [show 19*(j - q)=19*(j - (q+1))+19 by omega,Fw',Nat.div_div_eq_div_mul,←Nat.pow_add,show 19*q+19=19*(q+1) by omega]
           simp [Lib.byteCells]
         rw [hbytes] at HW
         have HB2:=hid hb2
         clear hnews hbytes hbd hb2
         go_wp2_with fail
         refine (HW.out).mono ?_
         rintro e w3 ⟨rfl,hbd3,hb3⟩
         have HF:=hid (And.intro hbd3 (HB2.out.trans hb3))
         clear hbd3 hb3
         go_wp2_with fail
         go_roundw
         case rel=>exact ⟨q,by omega,congrArg (Value.int .i64) (AM' q).symm,.inr HF.out.1,HF.out.2⟩
         case measure=>simp [intOf]
   · have htr:B6' (some ⟨w.heap.size,0,none⟩) (len n) gk=.slice (some ⟨w.heap.size,0,none⟩) (len gk) (len n):=by rw [B6',if_neg (by omega)]
     rw [htr]
     clear htr
     have hlx:=Ak.2 hx
     have hxi:(0:Int)<((len gk:Nat):Int):=by omega
     have hlg:len gk≤len n:=by rw [HX.out];exact Am (Nat.div_le_self _ _)
     have HC:=hid (DK' (o:=0) (n:=len gk) (c:=len n) (y:=10000000000000000000) hr (by omega) (by omega) (by decide) (by rw [BG'];decide))
     go_wp2_with fail
     refine (HC.out).mono ?_
     rintro e w2 ⟨cs2,k,rfl,hk,hw2,hr2,hl2,-,hz2,hk2⟩
     rw [HSG.out] at hz2 hk2
     have HZ2:=hid hz2;have HK2:=hid hk2;have HL2:=hid hl2
     have hown2:=hown.kept hw2 (by
       cases hv:u3.ownBlock with
       | none=>exact .inl rfl
       | some g=>have:=hown.lt g hv;exact .inr (by intro e;simp at e;omega))
     have HC2:=hid (Fw (w:=w2) (n:=k) (by rw [←BG'];exact hk))
     clear hz2 hk2 hl2 HC
     go_wp2_with fail
     refine (HC2.out).mono ?_
     rintro e w3 ⟨rfl,b3⟩
     clear HC2
     obtain ⟨R,hR⟩:=eX (Bc' (digs 19 k))
     have HR:=hid hR
     rw [←hR]
     clear hR
     have hRs:R.size=19:=by rw [HR.out,Cj,Bx']
     have hown3:w3.ownsRow (w.heap.size+1) 154 19 u3 j (By n j):=hown2.kept (row:=none) ⟨b3.os,b3.tape,b3.output,b3.size,fun i hi _=>b3.block i hi⟩ (by cases u3.ownBlock <;> simp)
     have hsz3:w.heap.size+1≤w3.heap.size:=by have:=hr2.lt;have:=b3.size;omega
     have hjb:j≤2*len n:=Fx (by rw [←HX.out];exact hx)
     have hown4:=hown3.alloc (.cells R 154)
     have hnews:∀ (i:Nat) u,R.toList[i]?=some u→(w3.alloc (.cells R 154)).cell? ((⟨w3.heap.size,0,none⟩:Addr).add i)=some u:=by
       intro i u hu
       have hadd:(⟨w3.heap.size,0,none⟩:Addr).add i=⟨w3.heap.size,0+i,none⟩:=by unfold Addr.add;split <;> simp_all
       rw [hadd,Nat.zero_add,cR _ _ _ _ _ _ (hA_ w3 _)]
       simpa using hu
     have hones:∀ u∈R.toList,u.oneCell'=true:=by
       intro u hu
       have:=Fb (digs 19 k)
       rw [←HR.out,Array.all_eq_true_iff_forall_mem] at this
       exact this u (by simpa using hu)
     have HN:=hid hnews;have HO:=hid hones
     have hgr:(w3.alloc (.cells R 154)).heap[w.heap.size]?=w2.heap[w.heap.size]?:=by
       rw [Below.heap_alloc _ _ _ (by omega)]
       exact b3.block _ hr2.lt
     have HGR:=hid hgr
     have HB4:=hid (show Below w.heap.size w (w3.alloc (.cells R 154)) from (((hb.trans (hw2.below (Nat.le_of_lt hr.lt) (nL _))).trans (b3.mono (by have:=hr2.lt;omega))).alloc (by omega) _))
     clear hnews hones hgr hown hown2 hown3 b3
     have hfold:=HD' hRs (show (#[.int .u8 0,.int .u8 0,.int .u8 0,.int .u8 0,.int .u8 0,.int .u8 0,.int .u8 0,.int .u8 0,.int .u8 0,.int .u8 0,.int .u8 0,.int .u8 0,.int .u8 0,.int .u8 0,.int .u8 0,.int .u8 0,.int .u8 0,.int .u8 0,.int .u8 0]:Array Value).size=19 from rfl)
     go_wp2_with (at_builtin;refine wpList_append_own _ rfl (.tmp 15) (.tmp 19) 153 rfl (w.heap.size+1) 154 i0 (.agg (Bc' (List.replicate 19 0))) 19 19 Tryz.underlying153 hi hz0 hz1 hz2 (Cj _) (by decide) _ _ _ rfl hown4 ⟨w3.heap.size,0,none⟩ 1 1 R.toList rfl ?c1 HN.out HO.out ?c3 ?c4 ?c5 ?_)
     case c1=>simp [hRs]
     case c3=>unfold maxLen;omega
     case c4=>omega
     case c5=>simp;omega
     intro v' w5 hown5 hgrow _
     have hrow5:AK' w5 w.heap.size cs2:=by
       refine ⟨?_,hr2.2⟩
       rw [hgrow.block _ (by simp;omega) (fun e=>by have:=hown4.lt _ e.symm;omega),HGR.out]
       exact hr2.1
     have hb5:=HB4.out.grown hgrow (by simp;omega) (fun k hk=>by have:=hown4.lt k hk;omega)
     have hrd:Bk' w5 (w.heap.size+1) (.slice (some ⟨w.heap.size,0,none⟩) (len gk) (len n)) (len gk) (gk / 10000000000000000000):=by
       have:=hrow5.reads (o:=0) (n:=len gk) (c:=len n) (by rw [HL2.out];omega) hlg (by omega)
       rw [HZ2.out] at this
       exact this
     have HT:=hid (Dy hrd)
     have HF:=hid (And.intro hown5 (And.intro hrow5 hb5))
     clear hown4 hown5 hrow5 hb5 hrd hgrow
     go_wp2_with fail
     refine (HT.out).mono ?_
     rintro e w6 ⟨rfl,rfl⟩
     go_wp2_with fail
     go_roundg (gk / 10000000000000000000)
     case measure=>exact Nat.div_lt_self hx (by decide)
     case rel =>
       obtain ⟨hown5,hrow5,hb5⟩:=HF.out
       have hlt10:gk / 10000000000000000000<gk:=Nat.div_lt_self hx (by decide)
       refine ⟨j+1,by omega,by omega,?_,rfl,⟨cs2,hrow5,HL2.out.trans hcl,GT hrow5.2 HZ2.out⟩,?_,hb5⟩
       · show _=_
         rw [HX.out,Nat.div_div_eq_div_mul,Ii',←Nat.pow_add,Nat.mul_succ]
       · have e:R.toList=Lib.byteCells (digs 19 (n / 10^(19*j))):=by
           rw [HR.out,Fx',HK2.out,Ii',HC',←HX.out]
         rw [e] at hown5
         exact hown5
theorem Fy {w:World}:Calls Tryz.prog 74 #[.slice none 0 0] w (fun e w'=>e=.returned (.string ⟨#[48]⟩)∧Below w.heap.size w w'):=by
 have HC:=hid (BM' (Nt.zero w) (by rw [AG'];omega))
 go_enter Tryz.func74,Tryz.ntmps74
 go_wp2_with fail
 refine (HC.out).mono ?_
 rintro e w1 (⟨_,rfl,rfl⟩ | ⟨h,_⟩)
 · go_wp2_with fail
   refine wp_loop_rounds 1 ?_
   rw [rounds_succ]
   go_wp2_with fail
   refine wp_loop_rounds 1 ?_
   rw [rounds_succ]
   obtain ⟨wb,hwb⟩:=eX (w1.alloc (.cells #[.pointer none,.slice none 0 0] 159))
   have hbb:Lib.IsBuilder 159 5 w1.heap.size w1.heap.size (Lib.byteCells []) wb :=
     .inl ⟨nL _,.slice none 0 0,by rw [hwb];exact hA_ w1 _,⟨rfl,.inl ⟨rfl,rfl⟩⟩,by simp [Value.ownBlock]⟩
   have hb1:Below w1.heap.size w1 wb:=by rw [hwb];exact (Below.refl _ _).alloc (nL _) _
   have HS:=hid (Tryz.Builder_String_any _ _ _ _ hbb hb1.size)
   rw [←hwb]
   clear hwb hbb
   go_wp2_with fail
   refine (HS.out).mono ?_
   rintro e w3 ⟨rfl,b3⟩
   have HT:=hid (Tryz.strings_TrimLeft_one ⟨#[]⟩ 48 (by decide) w3)
   have HF:=hid (hb1.trans b3)
   clear b3 hb1 HS
   go_wp2_with fail
   refine (HT.out).mono ?_
   rintro e w4 ⟨rfl,rfl⟩
   go_wp2_with fail
   go_ret
   exact ⟨rfl,HF.out⟩
 · omega
def BJ (w:World) (l:List UInt8) (e:Ending) (w':World):Prop:=e=.returned (.string ⟨l.toArray⟩)∧Below w.heap.size w w'
theorem BP' {w:World} {n:Nat} {va:Value} (ha:Nt w va n) (hs:len n≤1099511627776):Calls Tryz.prog 74 #[va] w (BJ w (AZ' n)):=by
 rcases Nat.eq_zero_or_pos n with h | h
 · subst h
   rw [As'.zero' ha]
   exact Fy
 · exact Gf' ha hs h
end Go.Proofs.YtflopjfnppolgaaGreatDoor
