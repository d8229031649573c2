/-
  Contracts of the functions that the law calls, for every input (Rh Rq).
-/
import Derived.Test.YtflopjfnppolgaaGreatDoorZ00
import Derived.Test.YtflopjfnppolgaaGreatDoorZ22
import Derived.Test.YtflopjfnppolgaaGreatDoorZ26
import Derived.Test.YtflopjfnppolgaaGreatDoorZ17
import Derived.Test.YtflopjfnppolgaaGreatDoorZ18
set_option linter.all false
set_option maxRecDepth 100000
set_option maxHeartbeats 40000000
namespace Go.Proofs.YtflopjfnppolgaaGreatDoor.Rf
open Lib (hid)
open Go.RowKit
open Rx
theorem Iz' {n k:Nat} (h:n / V^k=0) (hk:k≤len n):len n=k:=by
 have h1:n<V^k:=by
   rcases Nat.lt_or_ge n (V^k) with h2 | h2
   · exact h2
   · have:=Nat.div_pos h2 (AQ' k);rw [h] at this;exact absurd this (by decide)
 exact Nat.le_antisymm (AA h1) hk
theorem IA {n k m:Nat} (h:n / V^k=m) (h0:0<m):word n k=m%65536∧n / V^(k+1)=m / 65536∧k+1≤len n:=by
 refine ⟨by unfold word;rw [h];rfl,by rw [Nat.pow_succ,←Nat.div_div_eq_div_mul,h];rfl,?_⟩
 rcases Nat.lt_or_ge k (len n) with h1 | h1
 · exact h1
 · have h2:n<V^k:=ltl (Ao n) (Nat.pow_le_pow_right Bn' h1)
   rw [Nat.div_eq_of_lt h2] at h
   omega
theorem IA' {n:Nat} (h:n<18446744073709551616):len n≤4:=AA (n:=4) (ltl h (by decide +kernel))
theorem G3' {w:World} {n:Nat} (hn:n<18446744073709551616) :
   Calls Tryz.prog 45 #[.int .u64 (n:Nat)] w (Cj' w n):=by
 have hn5:=IA' hn
 clear hn
 go_enter Tryz.func45,Tryz.ntmps45
 go_wp2_with fail
 go_loopw [0,3] (fun p v wr=>∃ k m:Nat,p=.int .u64 (m:Nat)∧Hid (n / V^k=m)∧k≤len n∧Hid (BF w wr v n k)∧Hid (Below w.heap.size w wr)) (fun p _ _=>(intOf p).toNat)
 case atStart=>exact ⟨0,n,rfl,by show _=_;simp,Nat.zero_le _,Ck w,Am' w _⟩
 case round =>
   obtain ⟨k,m,rfl,hm,hk,hown,hbl⟩:=hrel
   rcases Nat.eq_zero_or_pos m with h0 | h0
   · have hlen:=Iz' (by rw [←h0];exact hm.out) hk
     have F:∀ v,BF w wr v n k→Ap' wr v n:=fun v h=>by unfold Ap';rw [hlen];exact A8'.of_row h (by rw [←hlen];exact Ao n)
     have F:=hid (F _ hown.out)
     have t1:decide (((m:Nat):Int)>0)=false:=dF_ (by omega)
     have t2:((m:Nat):Int)≤0:=by omega
     clear h0 hlen hk hm hn5
     go_wp2_with fail
     go_ret
     exact ⟨_,rfl,F.out,hbl.out⟩
   · obtain ⟨e1,e2,e3⟩:=IA hm.out h0
     obtain ⟨d,hd⟩:=eY (word n k)
     obtain ⟨m',hm'⟩:∃ m',n / V^(k+1)=m':=⟨_,rfl⟩
     have hdl:=word_lt n k
     rw [hd] at hdl e1
     rw [hm'] at e2
     unfold V at hdl
     have hand:bits .and .u64 ((m:Nat):Int) 65535=((d:Nat):Int):=by rw [Iu',e1]
     have hwr:=Gi hdl
     have hshr:((m:Nat):Int) / 65536=((m':Nat):Int):=by omega
     have hlt:m'<m:=by omega
     have hk9:k≤2199023255552:=by omega
     replace hd:=hid hd
     replace hm':=hid hm'
     replace e3:=hid e3
     replace hm:=hid hm.out
     clear e1 e2 hdl hk hn5
     go_wp2_with (at_builtin;refine Cd' rfl _ _ rfl rfl hown.out hbl.out hd.out hk9 rfl ?_;intro v' w1 hown' hb')
     go_roundw
     case rel=>exact ⟨k+1,m',rfl,hm'.out,e3.out,hown',hb'⟩
     case measure=>simp [intOf];omega
theorem FP' (m:Nat) (b:Bool):rat b m 1=if b then -((m:Nat):Rat) else ((m:Nat):Rat):=by
 unfold rat
 rw [Rat.mkRat_one]
 cases b
 · simp;rfl
 · simp;rfl
theorem EA' {q:Rat} {b:Bool} {m:Nat} (h:rat b m 1=q):q.num.natAbs=m∧q.den=1∧decide (q.num<0)=(b && decide (0<m)):=by
 have:=Ez' (by decide) h
 rw [Nat.gcd_one_right,Nat.div_one] at this
 exact this
theorem IB {w:World} {m:Nat} {q:Rat} (hq:((m:Nat):Rat)=q) (hm:m<9223372036854775808) :
   Calls Tryz.prog 13 #[.int .i64 ((m:Nat):Int)] w (A2' w q):=by
 obtain ⟨p1,p2,p3⟩:=EA' (q:=q) (b:=false) (m:=m) (by rw [FP'];exact hq)
 rw [Bool.false_and] at p3
 obtain ⟨wB,hwB⟩:=eX (w.alloc (.cells #[.bool false,.slice none 0 0,.slice none 0 0] 43))
 have hRB:=RB.start w
 rw [←hwB] at hRB
 obtain ⟨R,hR⟩:=eY w.heap.size
 rw [hR] at hRB
 have v1:decide (((m:Nat):Int)<0)=false:=dF_ (by omega)
 have v2:IntKind.u64.wrap ((m:Nat):Int)=((m:Nat):Int):=by rw [IntKind.wrap_u64];omega
 have HO:=hid (G3' (w:=wB) (n:=m) (by omega))
 have v0:(0:Int)≤((m:Nat):Int):=by omega
 have v3:((m:Nat):Int)≤9223372036854775807:=by omega
 replace hRB:=hid hRB
 replace p1:=hid p1
 replace p2:=hid p2
 replace p3:=hid p3
 clear hq hm
 go_enter Tryz.func13,Tryz.ntmps13
 go_upto_region 1 with fail
 rw [←hwB]
 replace hR:=hid hR
 clear hwB
 go_wp2_with fail
 refine (HO.out).mono ?_
 rintro e w1 ⟨v,rfl,hv,b1⟩
 obtain ⟨A,c,rfl,-,-,-,-⟩:=id hv
 have hone:=hid (Ed' w1)
 have b2:=Am' w1 (.cells #[.int .i64 1] 3)
 have hRB2:=hid ((hRB.out.call b1).call b2)
 have hv2:=hid (hv.keep b2)
 clear hv b1 b2 hRB HO
 obtain ⟨hbF,⟨r0,r1,r2⟩,hkF⟩:=(hRB2.out).store (b:=false) (A:=A) (n:=len m) (c:=c) (A':=some ⟨w1.heap.size,0,none⟩) (n':=1) (c':=1) _ rfl
 obtain ⟨u0,u1,u2,⟨k0,k1,k2⟩,f0,f1,f2⟩:=(hRB2.out).cells
 have F:=hid (show Ah _ (.agg #[.bool false,.slice A (len m) c,.slice (some ⟨w1.heap.size,0,none⟩) 1 1]) q from ⟨_,_,by rw [p3.out],by rw [p1.out];exact hkF _ _ hv2.out,by rw [p2.out];exact hkF _ _ hone.out⟩)
 have FB:=hid hbF
 clear hbF hkF
 go_wp2_with fail
 refine bP (v:=.agg #[.bool false,.slice A (len m) c,.slice (some ⟨w1.heap.size,0,none⟩) 1 1]) ?_ rfl ⟨_,rfl,F.out,by rw [hR.out];exact FB.out⟩
 simp [results,Tryz.results13,go_sem,r0,r1,r2]
end Go.Proofs.YtflopjfnppolgaaGreatDoor.Rf
