/-
  Contracts of the functions that the law calls, for every input (Re Rf).
-/
import Derived.Test.YtflopjfnppolgaaGreatDoorZ00
import Derived.Test.YtflopjfnppolgaaGreatDoorZ21
import Derived.Deep.QuietTactic
import Derived.BigQuiet
import Derived.StillTailTactics
set_option linter.all false
set_option maxRecDepth 100000
set_option maxHeartbeats 40000000
namespace Go.Proofs.YtflopjfnppolgaaGreatDoor.Rf
open Lib (hid)
open Go.RowKit
open Rx
theorem GY' {P:Program} {f:FuncId} {args:Array Value} {w:World} {n:Nat} {v:Int} (h:Calls P f args (w.drewN n) (Dn' (w.drewN n) v)) :
   Calls P f args (w.drewN n) fun e w''=>e=.returned (.int .i64 v)∧∃ m,w''=w.drewN m:=h.mono fun _ _ ⟨a,b⟩=>⟨a,n,b.symm⟩
theorem Ik (w:World) (n:Nat):Below w.heap.size w (w.drewN n):=⟨rfl,rfl,rfl,nL _,fun _ _=>rfl⟩
theorem BF.drewN {w0 w:World} {v:Value} {z k:Nat} (h:BF w0 w v z k) (n:Nat):BF w0 (w.drewN n) v z k:=h
theorem Below.drewN {B:Nat} {w w':World} (h:Below B w w') (n:Nat):Below B w (w'.drewN n):=⟨h.os,h.tape,h.output,h.size,h.block⟩
theorem Ck' {w:World} {vx vy:Value} {x y:Nat} (hx:Ap' w vx x) (hy:Ap' w vy y) (hxy:y≤x) (sx:len x≤1099511627776) :
   Calls Tryz.prog 127 #[vx,vy] w (Cj' w (x - y)):=by
 obtain ⟨n,hn⟩:=eY (len x)
 obtain ⟨m,hm⟩:=eY (len y)
 have hlt:x - y<V^n:=Nat.lt_of_le_of_lt (Nat.sub_le _ _) (by rw [←hn];exact Ao x)
 have hst:=hid (fun k=>GY k hxy)
 obtain ⟨z,hz⟩:=eY (x - y)
 rw [hz] at hlt hst ⊢
 replace hlt:=hid hlt
 unfold Ap' at hx hy
 rw [hn] at hx sx
 rw [hm] at hy
 clear hn hm hz hxy
 obtain ⟨A,cc,rfl,-,-,-,-⟩:=id hx
 obtain ⟨A2,c2,rfl,-,-,-,-⟩:=id hy
 replace hx:=hid hx
 replace hy:=hid hy
 go_enter Tryz.func127,Tryz.ntmps127
 go_wp2_with fail
 go_loopw [5,6,7] (fun v c i wr=>∃ k:Nat,k≤n∧i=.int .i64 k∧c=.int .i64 (Cd x y k)∧Hid (BF w wr v z k)∧Hid (Below w.heap.size w wr)) (fun _ _ i _=>n - (intOf i).toNat)
 case atStart=>exact ⟨0,Nat.zero_le _,rfl,by rw [GX'],Ck w,Am' w _⟩
 case round =>
   obtain ⟨k,hk,rfl,rfl,hown,hbl⟩:=hrel
   obtain ⟨c,hc⟩:=eY (Cd x y k)
   obtain ⟨hc1,hc2⟩:=Gh' x y k
   rw [hc] at hc1 hc2 ⊢
   rcases Nat.lt_or_ge k n with hkl | hkl
   · obtain ⟨a,ha⟩:=eY (word x k)
     obtain ⟨b,hb⟩:=eY (word y k)
     have ha1:=word_lt x k
     have hb1:=word_lt y k
     obtain ⟨s1,s2⟩:=hst.out k
     obtain ⟨g,o,rfl,hcell⟩:=(hx.out.keep hbl.out).at hkl
     have HY:=hid (fun q=>GY' (BK' ((hy.out.keep hbl.out).keep (Ik _ q)) (k:=k) (by omega)))
     rw [ha] at ha1 s1 s2 hcell
     rw [hb] at hb1 s1 s2 HY
     rw [hc] at s1 s2
     obtain ⟨d,hd⟩:=eY (word z k)
     obtain ⟨c',hc'⟩:∃ c',Cd x y (k+1)=c':=⟨_,rfl⟩
     rw [hd] at s1
     rw [hc'] at s2
     unfold V at ha1 hb1
     have hand:bits .and .i64 (c+((a:Nat) - (b:Nat))) 65535=((d:Nat):Int):=by rw [Do,s1]
     have hshr:(c+((a:Nat) - (b:Nat))) / 65536=c':=s2.symm
     replace hd:=hid hd
     replace hc':=hid hc'
     clear ha hb hc s1 s2
     go_wp2_with fail
     go_quiet ((go_at_call 83;exact HY.out _))
     have hown:=hid (hown.out.drewN nq)
     have hbl:=hid (Below.drewN hbl.out nq)
     go_wp2_with (at_builtin;refine Cd' rfl _ _ rfl rfl hown.out hbl.out hd.out (by omega) rfl ?_;intro v' w1 hown' hb')
     go_roundw
     case rel=>exact ⟨k+1,by omega,by go_num,by rw [hc'.out],hown',hb'⟩
     case measure=>simp [intOf];omega
   · obtain rfl:k=n:=by omega
     clear hc
     go_wp2_with fail
     refine (BZ' (A8'.of_row hown.out hlt.out)).mono ?_
     rintro e w' ⟨v2,rfl,hv2,rfl⟩
     replace hv2:=hid hv2
     go_wp2_with fail
     go_ret
     exact ⟨_,rfl,hv2.out,hbl.out⟩
theorem Ec' (n:Int):bits .and .i64 n 1=n%2:=by
 have h1:(BitVec.ofInt 64 1).toNat=2^1 - 1:=by decide
 have key:(BitVec.ofInt 64 n &&& BitVec.ofInt 64 1).toNat=(n%((2^64:Nat):Int)).toNat%2^1:=by
   rw [BitVec.toNat_and,BitVec.toNat_ofInt,h1,Nat.and_two_pow_sub_one_eq_mod]
 show IntKind.i64.wrap ((BitVec.ofInt 64 n &&& BitVec.ofInt 64 1).toNat:Nat)=n%2
 rw [key,IntKind.wrap_i64]
 omega
theorem Iu {w:World} {vx:Value} {x i:Nat} (hx:Ap' w vx x) (hi:i≤1125899906842624) :
   Calls Tryz.prog 165 #[vx,.int .i64 (i:Nat)] w (Dn' w (x / 2^i%2:Nat)):=by
 have HX:=hid (BK' hx (k:=i / 16) (by omega))
 obtain ⟨a,ha⟩:=eY (word x (i / 16))
 obtain ⟨r,hr⟩:=eY (i%16)
 obtain ⟨q,hq⟩:=eY (i / 16)
 have ha1:=word_lt x (i / 16)
 rw [ha] at HX ha1
 rw [hq] at HX
 have hq2:((i:Nat):Int) / 16=((q:Nat):Int):=by omega
 have hr2:((i:Nat):Int)%16=((r:Nat):Int):=by omega
 have hq3:((i:Nat):Int).tdiv 16=((q:Nat):Int):=by rw [Int.tdiv_eq_ediv_of_nonneg (by omega)];exact hq2
 have hr3:((i:Nat):Int).tmod 16=((r:Nat):Int):=by rw [Int.tmod_eq_emod_of_nonneg (by omega)];exact hr2
 have hr1:r<16:=by omega
 obtain ⟨t,ht⟩:=eY (x / 2^i%2)
 rw [ht]
 unfold V at ha1
 have hand:bits .and .i64 (((a:Nat):Int) / 2^r) 1=((t:Nat):Int):=by
   rw [Ec',show ((2:Int)^r)=((2^r:Nat):Int) by simp,←Int.natCast_ediv]
   have e:a / 2^r%2=t:=by
     rw [←ht,←ha]
     unfold word
     have hi16:i=16*(i / 16)+r:=by omega
     have e1:x / 2^i=x / V^(i / 16) / 2^r:=by
       conv=>lhs;rw [hi16]
       rw [Nat.pow_add,Nat.pow_mul,←Nat.div_div_eq_div_mul];rfl
     rw [e1]
     generalize x / V^(i / 16)=m
     have hr1:r<16:=by omega
     obtain ⟨s,hs⟩:∃ s,16=r+(1+s):=⟨15 - r,by omega⟩
     have hV:V=2^(r+(1+s)):=by rw [←hs];rfl
     rw [hV,Nat.pow_add,Nat.mod_mul_right_div_self,Nat.pow_add,Nat.pow_one,Nat.mod_mul_right_mod]
   omega
 replace ha:=hid ha
 replace hr:=hid hr
 replace hq:=hid hq
 replace ht:=hid ht
 obtain ⟨A,cc,rfl,-,-,-,-⟩:=id hx
 clear hx
 go_enter Tryz.func165,Tryz.ntmps165
 go_wp2_with fail
 refine (HX.out).mono ?_
 rintro e w' ⟨rfl,rfl⟩
 go_wp2_with fail
 go_ret
 exact ⟨rfl,rfl⟩
theorem Iu' {n:Nat}:bits .and .u64 ((n:Nat):Int) 65535=((n%65536:Nat):Int):=by
 have h1:(BitVec.ofInt 64 65535).toNat=2^16 - 1:=by decide
 have key:(BitVec.ofInt 64 ((n:Nat):Int) &&& BitVec.ofInt 64 65535).toNat=(((n:Nat):Int)%((2^64:Nat):Int)).toNat%2^16:=by
   rw [BitVec.toNat_and,BitVec.toNat_ofInt,h1,Nat.and_two_pow_sub_one_eq_mod]
 show IntKind.u64.wrap ((BitVec.ofInt 64 ((n:Nat):Int) &&& BitVec.ofInt 64 65535).toNat:Nat)=_
 rw [key,IntKind.wrap_u64]
 omega
theorem Gi {d:Nat} (h:d<65536):wrap64 ((d:Nat):Int)=((d:Nat):Int):=by
 unfold wrap64
 omega
end Go.Proofs.YtflopjfnppolgaaGreatDoor.Rf
