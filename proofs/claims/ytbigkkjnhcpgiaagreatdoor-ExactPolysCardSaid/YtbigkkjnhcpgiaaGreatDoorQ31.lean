/-
  Contracts of the functions that the law calls, for every input (Ro).
-/
import Derived.Test.YtbigkkjnhcpgiaaGreatDoorQ00
import Derived.Test.YtbigkkjnhcpgiaaGreatDoorQ30
import Derived.Test.YtbigkkjnhcpgiaaGreatDoorQ17
set_option linter.all false
set_option maxRecDepth 100000
set_option maxHeartbeats 40000000
namespace Go.Proofs.YtbigkkjnhcpgiaaGreatDoor.Rf
open Lib (hid)
open Go.RowKit
open Rx
theorem Il' (X j:Nat):∀ r a s:Nat,X / V^(j+1)%10=r→word X j=a→r*65536+a=s→s / 10=word (X / 10) j∧s%10=X / V^j%10∧r<10∧a<65536:=by
 intro r a s hr ha hs
 have h:=A5' X j
 have h1:=word_lt X j
 rw [ha] at h h1
 have e:X / 10 / V^j=X / V^j / 10:=by rw [Nat.div_div_eq_div_mul,Nat.div_div_eq_div_mul,Nat.mul_comm]
 have e2:word (X / 10) j=X / V^j / 10%V:=by
   show X / 10 / V^j%V=_
   rw [e]
 rw [e2]
 generalize X / V^(j+1)=M at *
 generalize X / V^j=N at *
 unfold V at *
 subst hr hs
 refine ⟨?_,?_,?_,?_⟩ <;> omega
theorem Hg' {n k:Nat} (h0:n / 10^k=0) (h1:k=0∨0<n / 10^(k - 1)) (hn:0<n):AB n=digs k n:=by
 have hlt:n<10^k:=by
   rcases Nat.lt_or_ge n (10^k) with h | h
   · exact h
   · have:=Nat.div_pos h (Nat.pow_pos (by decide));omega
 rw [E7' hlt]
 rcases k with _ | k
 · have:n<1:=hlt
   omega
 · have h2:0<n / 10^k:=by
     rcases h1 with h1 | h1
     · omega
     · exact h1
   have h3:n / 10^k<10:=by
     rw [Nat.div_lt_iff_lt_mul (Nat.pow_pos (by decide)),Nat.mul_comm,←Nat.pow_succ];exact hlt
   have e:digs (k+1) n=UInt8.ofNat (48+n / 10^k%10)::digs k n:=Cp' k n
   have e3:Bv' (digs (k+1) n)=digs (k+1) n:=by
     rw [e]
     unfold Bv'
     rw [List.dropWhile_cons_of_neg]
     intro hc
     have hc2:=eq_of_beq hc
     have:=congrArg UInt8.toNat hc2
     rw [UInt8.toNat_ofNat',Nat.mod_eq_of_lt (a:=n / 10^k) h3] at this
     have h48:(48:UInt8).toNat=48:=rfl
     omega
   rw [e3,if_neg]
   rw [e];intro h;cases h
theorem byteT:Tryz.prog.underlying 128=some (.slice 5):=by kernel_rfl
theorem u8T:Tryz.prog.underlying 5=some (.int .u8):=by kernel_rfl
theorem strT:Tryz.prog.underlying 9=some .string:=by kernel_rfl
theorem Im (w:World) {r:Nat} (h:r<10):(convert 128 9 (.slice (some ⟨w.heap.size,0,none⟩) 1 1)).run Tryz.prog (w.alloc (.cells #[.int .u8 (48+((r:Nat):Int))] 5))=.ok (.string ⟨#[UInt8.ofNat (48+r)]⟩) (w.alloc (.cells #[.int .u8 (48+((r:Nat):Int))] 5)):=by
 refine run_convert_bytes_back _ _ _ _ ⟨w.heap.size,0,none⟩ 1 [UInt8.ofNat (48+r)] byteT u8T strT ?_
 intro j hj
 obtain rfl:j=0:=by simpa using hj
 have e:((UInt8.ofNat (48+r)).toNat:Int)=48+((r:Nat):Int):=by
   rw [UInt8.toNat_ofNat',Nat.mod_eq_of_lt (by omega)];omega
 show _=some (Value.int .u8 ((UInt8.ofNat (48+r)).toNat:Int))
 rw [e]
 exact cR _ _ 0 _ _ _ (hA_ w _)
theorem Ez (a b:ByteArray):(a++b).data.toList=a.data.toList++b.data.toList:=by rw [ByteArray.data_append,Array.toList_append]
theorem ten_k {x k n:Nat} (h:0<x / 10^k) (hn:len x=n):k+1≤20*n:=by
 have h1:10^k≤x:=by
   rcases Nat.lt_or_ge x (10^k) with h2 | h2
   · rw [Nat.div_eq_of_lt h2] at h;omega
   · exact h2
 have h2:=Ak' x
 rw [hn] at h2
 have h3:V^n≤(10^5)^n:=Nat.pow_le_pow_left (by decide) n
 rw [←Nat.pow_mul] at h3
 have h4:10^k<10^(5*n):=Nat.lt_of_le_of_lt h1 (ltl h2 h3)
 have:=(Nat.pow_lt_pow_iff_right (by decide)).1 h4
 omega
theorem FF {w:World} {vx:Value} {x:Nat} (hx:Ak w vx x) (hx0:0<x) (sx:len x≤1048576) :
   Calls Tryz.prog 132 #[vx] w (A9' w (AB x)):=by
 obtain ⟨A,c,rfl,-,-,-,-⟩:=id hx
 have hl:=Aj'.2 hx0
 have hx2:=hid hx
 obtain ⟨n,hn⟩:=eY (len x)
 rw [hn] at hx2 hl ⊢
 have e1:(((n:Nat):Int)==0)=false:=by rw [beq_eq_false_iff_ne];omega
 replace hn:=hid hn
 clear hx hl
 obtain ⟨l,hdl⟩:=eY (AB x)
 rw [hdl]
 replace hdl:=hid hdl
 go_enter Tryz.func132,Tryz.ntmps132
 go_wp2_with fail
 clear e1
 go_loopg [0,3] x (fun g xv sv wr=>∃ (k:Nat) (s:ByteArray),x / 10^k=g∧sv=.string s∧s.data.toList=digs k x∧Ak wr xv g∧(k=0∨0<x / 10^(k - 1))∧k≤20*n∧Below w.heap.size w wr)
 case atStart=>exact ⟨0,_,by rw [Nat.pow_zero,Nat.div_one],rfl,rfl,hx2.out,Or.inl rfl,Nat.zero_le _,Below.refl _ _⟩
 case round =>
   obtain ⟨k,s,hg,rfl,hs,hxv,hk0,hk20,hbl⟩:=hrel
   obtain ⟨X,hXg⟩:=eY gk
   rw [hXg] at hg hxv
   replace hXg:=hid hXg
   replace hbl:=hid hbl
   rcases Nat.eq_zero_or_pos X with hX0 | hX0
   · subst hX0
     have e:=Hg' hg hk0 hx0
     rw [hdl.out,←hs] at e
     obtain ⟨Ay,cy,rfl,-,-,-,-⟩:=hxv
     rw [Ax']
     have F:Ending.returned (.string s)=.returned (.string ⟨l.toArray⟩):=by rw [e]
     replace F:=hid F
     clear e hg hs
     go_wp2_with fail
     go_ret
     exact ⟨F.out,hbl.out⟩
   · obtain ⟨Ax,cx,rfl,-,-,-,-⟩:=id hxv
     obtain ⟨L,hL⟩:=eY (len X)
     have hLp:=Aj'.2 hX0
     have hXx:X≤x:=by rw [←hg];exact Nat.div_le_self _ _
     have hLn:=Ah hXx
     rw [hL] at hLp hLn hxv ⊢
     rw [hn.out] at hLn sx
     have e2:((L:Nat):Int)>0:=by omega
     have e3:decide (0<L)=true:=dT_ hLp
     obtain ⟨w5,hw5⟩:=eX wr
     rw [←hw5] at hxv hbl ⊢
     clear hw5
     have hxr:A4' w5 (.slice Ax L cx) L X:=by have h9:=hxv;unfold Ak at h9;rw [hL] at h9;exact h9
     replace hxr:=hid hxr
     clear hxv
     replace hg:=hid hg
     replace hL:=hid hL
     have hmk:=IJ L (by omega) w5
     obtain ⟨w6,hw6⟩:=eX (w5.alloc (.cells (madeCells #[.int .i64 0] L) 3))
     have hr1:=FV' w5 L
     have hb1:=Ag' w5 (.cells (madeCells #[.int .i64 0] L) 3)
     obtain ⟨g,hgg⟩:=eY w5.heap.size
     rw [←hw6] at hmk hr1 hb1
     rw [hgg] at hmk hr1
     clear hw6
     replace hr1:=hid hr1
     replace hb1:=hid hb1
     replace hgg:=hid hgg
     go_wp2_with fail
     clear hmk
     go_loopw [5,6] (fun rv iv wr=>∃ j:Nat,j≤L∧iv=.int .i64 (downI j)∧rv=.int .i64 (X / V^j%10:Nat)∧Hid (A3' wr g L (fun t=>if t<j then 0 else word (X / 10) t))∧Hid (Below w5.heap.size w5 wr)) (fun _ iv _=>(intOf iv+1).toNat)
     case atStart=>exact ⟨L,nL _,by rw [AJ'],by rw [Nat.div_eq_of_lt (by rw [←hL.out];exact Ak' X)];rfl,hr1.out.congr (fun t ht=>by rw [if_pos ht]),hb1.out⟩
     case round =>
       obtain ⟨j,hj,rfl,rfl,hrow,hb5⟩:=hrel
       rcases j with _ | j
       · obtain ⟨r,hr⟩:=eY (X / V^0%10)
         have hr10:r<10:=by omega
         have hz9:X / 10<V^L:=Nat.lt_of_le_of_lt (Nat.div_le_self _ _) (by rw [←hL.out];exact Ak' X)
         have HC0:=hid (A3'.reads (hrow.out.congr (f':=word (X / 10)) (fun t _=>by rw [if_neg (by omega)])) (by unfold maxLen;omega) hz9)
         rw [hr,show downI 0 = -1 from rfl]
         have hr2:x / 10^k%10=r:=by rw [hg.out,←hr,Nat.pow_zero,Nat.div_one]
         have hsz:s.size≤20971520:=by
           have h1:s.data.toList.length=s.size:=Array.length_toList (xs:=s.data)
           rw [hs,Bj'] at h1
           omega
         have hcv:=Im wr hr10
         obtain ⟨sb,hsb⟩:=eY ((⟨#[UInt8.ofNat (48+r)]⟩:ByteArray):ByteArray)
         have hs1:sb.size=1:=by rw [←hsb];rfl
         have hs2:sb.data.toList=[UInt8.ofNat (48+r)]:=by rw [←hsb]
         rw [hsb] at hcv
         obtain ⟨w7,hw7⟩:=eX (wr.alloc (.cells #[.int .u8 (48+((r:Nat):Int))] 5))
         have b7:=Ag' wr (.cells #[.int .u8 (48+((r:Nat):Int))] 5)
         rw [←hw7] at b7
         replace hw7:=hid hw7
         have hs2:=hid hs2
         replace hr:=hid hr
         replace hr2:=hid hr2
         replace hsb:=hid hsb
         replace b7:=hid b7
         have hs9:=hid hs
         clear hs
         have HC:=hid (BM' (HC0.out.keep b7.out))
         have hk1:=ten_k (x:=x) (k:=k) (by rw [hg.out];exact hX0) hn.out
         clear HC0
         go_wp2_with fail
         rw [←hw7.out]
         refine (HC.out).mono ?_
         rintro e w' ⟨v2,rfl,hv2,rfl⟩
         replace hv2:=hid hv2
         clear HC
         go_wp2_with fail
         go_roundg (X / 10)
         case rel =>
           refine ⟨k+1,_,?_,rfl,?_,hv2.out,Or.inr ?_,hk1,chain hbl.out (chain hb5.out b7.out)⟩
           · rw [Nat.pow_succ,←Nat.div_div_eq_div_mul,hg.out]
           · rw [Cp',hr2.out,Ez,hs2.out,hs9.out];rfl
           · rw [Nat.add_sub_cancel,hg.out];exact hX0
         case measure=>have:=hXg.out;omega
       · obtain ⟨r,hr⟩:=eY (X / V^(j+1)%10)
         obtain ⟨a,ha⟩:=eY (word X j)
         obtain ⟨v,hv⟩:=eY (r*65536+a)
         obtain ⟨q1,q2,q3,q4⟩:=Il' X j r a v hr ha hv
         obtain ⟨d,hd⟩:=eY (word (X / 10) j)
         obtain ⟨r',hr'⟩:=eY (X / V^j%10)
         rw [hd] at q1
         rw [hr'] at q2
         rw [hr,show downI (j+1)=((j:Nat):Int) from rfl]
         obtain ⟨wq,hwq⟩:=eX wr
         rw [←hwq] at hrow hb5 ⊢
         clear hwq
         obtain ⟨gx,ox,rfl,hcx⟩:=(hxr.out.keep hb5.out).at hj
         rw [ha] at hcx
         have hcz:=hrow.out.cell (t:=j) hj (d:=0) (by rw [if_pos (by omega)])
         have hfz:=hrow.out.frozen j
         obtain ⟨m,hm⟩:=eY (r*65536)
         rw [hm] at hv
         have v0:((r:Nat):Int)*65536=((m:Nat):Int):=by omega
         have v2:((m:Nat):Int)+(a:Nat)=((v:Nat):Int):=by omega
         have v3:((v:Nat):Int) / 10=((d:Nat):Int):=by omega
         have v4:((v:Nat):Int)%10=((r':Nat):Int):=by omega
         have v5:((v:Nat):Int).tdiv 10=((d:Nat):Int):=by rw [Int.tdiv_eq_ediv_of_nonneg (by omega)];exact v3
         have v6:((v:Nat):Int).tmod 10=((r':Nat):Int):=by rw [Int.tmod_eq_emod_of_nonneg (by omega)];exact v4
         have bm:m<655360:=by omega
         have bv:v<720896:=by omega
         have bd:d<720896:=by omega
         have br:r'<10:=by omega
         have hrow2:=hid (A3'.set (t:=j) (d:=d) hrow.out)
         have hbl2:=hid (hb5.out.setCell (p:=⟨g,j,none⟩) (Nat.le_of_eq hgg.out) (.int .i64 (d:Nat)))
         replace hd:=hid hd
         replace hr':=hid hr'
         clear hr ha hv q1 q2 q3 hm
         go_wp2_with fail
         go_roundw
         case rel =>
           refine ⟨j,by omega,by rw [AJ'],by rw [hr'.out],hrow2.out.congr ?_,hbl2⟩
           intro t ht
           by_cases h:t=j
           · rw [if_pos h,if_neg (by omega),h];exact hd.out.symm
           · rw [if_neg h]
             by_cases h2:t<j
             · rw [if_pos (by omega),if_pos h2]
             · rw [if_neg (by omega),if_neg h2]
         case measure=>simp [intOf]
end Go.Proofs.YtbigkkjnhcpgiaaGreatDoor.Rf
