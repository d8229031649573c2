/-
  Contracts of the functions that the law calls, for every input (Num1 Pow Diff Lehmer Steps Steps2 Steps3).
-/
import Derived.Test.YtlcimajjnfbidaaGreatDoorV00
import Derived.Test.YtlcimajjnfbidaaGreatDoorV08
import Derived.Deep.LoopGhost
set_option linter.all false
set_option maxRecDepth 100000
set_option maxHeartbeats 40000000
namespace Go.Proofs.YtlcimajjnfbidaaGreatDoor
open Lib (hid)
open Go.RowKit
open Vx
theorem over_any {w:World} {a b:Nat} {va vb:Value} (ha:Nt w va a) (hb:Nt w vb b) (hs:len a≤1099511627776) (hb0:0<b) :
   Calls Tryz.prog 91 #[va,vb] w (NatRet w (a / b)):=by
 have h1:=isOne_any hb
 have hd:=div_any ha hb hs hb0
 by_cases hb1:b=1
 · rw [decide_eq_true hb1] at h1
   go_enter Tryz.func91,Tryz.ntmps91
   go_wp2_with fail
   refine h1.mono ?_
   rintro e w1 ⟨rfl,rfl⟩
   go_wp2_with fail
   go_ret
   exact ⟨_,rfl,by rw [hb1,Nat.div_one];exact ha,Below.refl _ _⟩
 · rw [decide_eq_false hb1] at h1
   clear hb1
   go_enter Tryz.func91,Tryz.ntmps91
   go_wp2_with fail
   refine h1.mono ?_
   rintro e w1 ⟨rfl,rfl⟩
   go_wp2_with fail
   refine hd.mono ?_
   rintro e w1 ⟨v,u,rfl,hv,hu,hb⟩
   go_wp2_with fail
   go_ret
   exact ⟨_,rfl,hv,hb⟩
theorem gcdWords_any {w:World} {a b:Nat} (ha:a<W) (hb:b<W):Calls Tryz.prog 133 #[.int .u64 (a:Nat),.int .u64 (b:Nat)] w (SaysQ w (.int .u64 (Nat.gcd a b:Nat))):=by
 go_enter Tryz.func133,Tryz.ntmps133
 go_wp2_with fail
 go_loopw [0,1] (fun av bv wr=>∃ x y m:Nat,av=.int .u64 x∧bv=.int .u64 y∧x<18446744073709551616∧y<18446744073709551616∧wr=w.drewN m∧Hid (Nat.gcd x y=Nat.gcd a b)) (fun _ bv _=>(intOf bv).toNat)
 case atStart=>exact ⟨a,b,0,rfl,rfl,ha,hb,rfl,rfl⟩
 case round =>
   obtain ⟨x,y,m,rfl,rfl,hx,hy,rfl,hg⟩:=hrel
   by_cases h0:y=0
   · subst h0
     go_wp2_with fail
     go_ret
     exact ⟨congrArg (fun z:Nat=>Ending.returned (.int .u64 (z:Int))) (by rw [←hg.out,Nat.gcd_zero_right]),m,rfl⟩
   · have ht:(((y:Nat):Int) != 0)=true:=by rw [bne_iff_ne];omega
     have hm:((x:Nat):Int)%((y:Nat):Int)=((x%y:Nat):Int):=by omega
     have hml:=Nat.mod_lt x (Nat.pos_of_ne_zero h0)
     have hy1:1≤y:=Nat.pos_of_ne_zero h0
     have HM:=hid hm
     clear hm
     go_wp2_with fail
     go_quiet (fail)
     go_wp2_with fail
     go_roundw
     case rel =>
       refine ⟨y,x%y,m+nq,rfl,by rw [HM.out],hy,by omega,by rw [World.drewN_drewN],?_⟩
       show _=_
       rw [←hg.out,Nat.gcd_comm x y,Nat.gcd_rec y x,Nat.gcd_comm]
     case measure=>simp [intOf];omega
theorem bitlen_split {x:Nat} (h:0<x):bitlen x=(len x - 1)*64+bitlen (word x (len x - 1)):=by
 obtain ⟨e1,e2⟩:=word_top h
 have hl:len x=x.log2 / 64+1:=by unfold len;rw [if_neg (by omega)]
 have hq:len x - 1=x.log2 / 64:=by omega
 have hlog:(word x (len x - 1)).log2=x.log2 - 64*(x.log2 / 64):=by
   rw [e1,hq,Nat.log2_eq_iff (by rw [←hq,←e1];omega)]
   have h1:=Nat.log2_self_le (n:=x) (by omega)
   have h2:=Nat.lt_log2_self (n:=x)
   generalize x.log2=L at *
   constructor
   · rw [Nat.le_div_iff_mul_le (Wn_pos _),W_pow,←Nat.pow_mul,←Nat.pow_add,show L - 64*(L / 64)+64*(L / 64)=L by omega]
     exact h1
   · rw [Nat.div_lt_iff_lt_mul (Wn_pos _),W_pow,←Nat.pow_mul,←Nat.pow_add,show L - 64*(L / 64)+1+64*(L / 64)=L+1 by omega]
     exact h2
 unfold bitlen
 rw [if_neg (by omega),if_neg (by omega),hlog,hq]
 omega
theorem bitlen_le (x:Nat):bitlen x≤64*len x:=by
 unfold bitlen len
 split <;> omega
theorem bitLength_any {w:World} {a:Nat} {va:Value} (ha:Nt w va a) (hs:len a≤4398046511104):Calls Tryz.prog 150 #[va] w (Says w (.int .i64 (bitlen a:Nat))):=by
 rcases Nat.eq_zero_or_pos a with h0 | h0
 · subst h0
   rw [IsNat.zero' ha]
   go_enter Tryz.func150,Tryz.ntmps150
   go_wp2_with fail
   go_ret
   exact ⟨rfl,rfl⟩
 · obtain ⟨A,c,rfl,hc1,hc2,hz,hp⟩:=id ha
   obtain ⟨g,o,rfl,hg,hcell⟩:=hp h0
   have hl:=len_pos.2 h0
   have ht:(((len a:Nat):Int)==0)=false:=by rw [beq_eq_false_iff_ne];omega
   have hct:=hcell (len a - 1) (by omega)
   have hln:=len64_any (word a (len a - 1)) (word_lt _ _)
   have hb:=bitlen_split h0
   have hbl:bitlen (word a (len a - 1))≤64:=by
     have:=bitlen_le (word a (len a - 1))
     have h2:=len_le (x:=word a (len a - 1)) (n:=1) (by rw [Nat.pow_one];exact word_lt _ _)
     omega
   have HB:=hid hb
   clear hb hcell hp
   go_enter Tryz.func150,Tryz.ntmps150
   go_wp2_with fail
   refine (hln _).mono ?_
   rintro e w' ⟨rfl,rfl⟩
   go_wp2_with fail
   go_ret
   exact says_int (by rw [HB.out];omega)
end Go.Proofs.YtlcimajjnfbidaaGreatDoor
namespace Go.Proofs.YtlcimajjnfbidaaGreatDoor
open Lib (hid)
open Go.RowKit
open Vx
theorem one_nat (w:World):Nt (w.alloc (.cells #[.int .u64 1] 97)) (.slice (some ⟨w.heap.size,0,none⟩) 1 1) 1:=by
 refine ⟨_,1,by rw [len_one],by rw [len_one];omega,by omega,fun e=>by omega,fun _=>⟨w.heap.size,0,rfl,by simp,fun j hj=>?_⟩⟩
 rw [len_one] at hj
 obtain rfl:j=0:=by omega
 rw [cell_of_row _ _ _ _ _ _ (heap_alloc_new w _)]
 have:word 1 0=1:=by decide +kernel
 simp [this]
theorem len_pow_le (a n:Nat):len (a^n)≤len a*n+1:=by
 induction n with
 | zero=>simp [len_one]
 | succ n ih =>
   rw [Nat.pow_succ]
   refine Nat.le_trans (len_mul_le _ _) ?_
   rw [Nat.mul_succ]
   omega
theorem bitlen_lt (n:Nat):n<2^bitlen n:=by
 unfold bitlen
 split
 · subst n;simp
 · exact Nat.lt_log2_self
theorem i64_and1 (n:Int):bits .and .i64 n 1=n%2:=by
 have h1:(BitVec.ofInt 64 1).toNat=2^1 - 1:=by decide
 have key:(BitVec.ofInt 64 n &&& BitVec.ofInt 64 1).toNat=(n%((2^64:Nat):Int)).toNat%2^1:=by
   rw [BitVec.toNat_and,BitVec.toNat_ofInt,h1,Nat.and_two_pow_sub_one_eq_mod]
 show IntKind.i64.wrap ((BitVec.ofInt 64 n &&& BitVec.ofInt 64 1).toNat:Nat)=n%2
 rw [key,IntKind.wrap_i64]
 omega
theorem bit_test (n p:Nat):(bits .and .i64 (((n:Nat):Int) / 2^p) 1==1)=decide (n / 2^p%2=1):=by
 rw [i64_and1,show ((2:Int)^p)=((2^p:Nat):Int) by simp,←Int.natCast_ediv]
 generalize n / 2^p=m
 rw [show ((m:Nat):Int)%2=((m%2:Nat):Int) by omega]
 rcases Nat.mod_two_eq_zero_or_one m with h | h <;> rw [h] <;> rfl
theorem halve (n p:Nat):n / 2^p=n / 2^(p+1)+n / 2^(p+1)+n / 2^p%2:=by
 rw [Nat.pow_succ,←Nat.div_div_eq_div_mul];omega
theorem pow_any {w:World} {a n:Nat} {va:Value} (ha:Nt w va a) (hn:n≤1099511627776) (hs:len a*n≤1099511627776) (hs1:len a≤1099511627776) :
   Calls Tryz.prog 101 #[va,.int .i64 (n:Nat)] w (NatRet w (a^n)):=by
 have hln:=lenu_any n (by rw [W_eq];omega)
 have hbl:bitlen n≤64:=by
   have:=bitlen_le n
   have h2:=len_le (x:=n) (n:=1) (by rw [Nat.pow_one,W_eq];omega)
   omega
 have hone:=one_nat w
 go_enter Tryz.func101,Tryz.ntmps101
 go_wp2_with fail
 refine (hln _).mono ?_
 rintro e w' ⟨rfl,rfl⟩
 go_wp2_with fail
 go_loopw [5,6] (fun pv i wr=>∃ k:Nat,k≤bitlen n∧i=.int .i64 (downI k)∧Nt wr pv (a^(n / 2^k))∧Below w.heap.size w wr) (fun _ i _=>(intOf i+1).toNat)
 case atStart =>
   refine ⟨bitlen n,Nat.le_refl _,congrArg (Value.int .i64) (downI_eq _).symm,?_,(Below.refl _ _).alloc (Nat.le_refl _) _⟩
   rw [Nat.div_eq_of_lt (bitlen_lt n),Nat.pow_zero]
   exact hone
 case round =>
   obtain ⟨k,hk,rfl,hp,hb⟩:=hrel
   rcases Nat.eq_zero_or_pos k with h0 | h0
   · subst h0
     simp only [downI]
     rw [Nat.pow_zero,Nat.div_one] at hp
     go_wp2_with fail
     go_ret
     exact ⟨_,rfl,hp,hb⟩
   · obtain ⟨p,rfl⟩:∃ p,k=p+1:=⟨k - 1,by omega⟩
     simp only [downI]
     have hlp:len (a^(n / 2^(p+1)))≤1099511627777:=by
       have h1:=len_pow_le a (n / 2^(p+1))
       have h2:=Nat.mul_le_mul_left (len a) (Nat.div_le_self n (2^(p+1)))
       omega
     have hle:len (a^(n / 2^(p+1))*a^(n / 2^(p+1)))≤1099511627777:=by
       rw [←Nat.pow_add]
       have h1:=len_pow_le a (n / 2^(p+1)+n / 2^(p+1))
       have h3:=halve n p
       have h4:=Nat.div_le_self n (2^p)
       have h2:=Nat.mul_le_mul_left (len a) (show n / 2^(p+1)+n / 2^(p+1)≤n by omega)
       omega
     have ht:=bit_test n p
     have hav:=ha.keep hb
     have hh:=halve n p
     by_cases hodd:n / 2^p%2=1
     · rw [decide_eq_true hodd] at ht
       have HO:=hid hodd;have HH:=hid hh;clear hodd hh
       go_wp2_with fail
       refine (mul_any hp hp (by omega) (by omega)).mono ?_
       rintro e w1 ⟨v,rfl,hv,b1⟩
       go_wp2_with fail
       refine (mul_any hv (hav.keep b1) (by omega) (by omega)).mono ?_
       rintro e w2 ⟨v2,rfl,hv2,b2⟩
       go_wp2_with fail
       go_roundw
       case rel =>
         refine ⟨p,by omega,congrArg (Value.int .i64) (downI_eq p).symm,?_,chain (chain hb b1) b2⟩
         rw [HH.out,HO.out,Nat.pow_add,Nat.pow_add,Nat.pow_one]
         exact hv2
       case measure=>simp [intOf]
     · rw [decide_eq_false hodd] at ht
       have HO:=hid hodd;have HH:=hid hh;clear hodd hh
       go_wp2_with fail
       refine (mul_any hp hp (by omega) (by omega)).mono ?_
       rintro e w1 ⟨v,rfl,hv,b1⟩
       go_wp2_with fail
       go_roundw
       case rel =>
         refine ⟨p,by omega,congrArg (Value.int .i64) (downI_eq p).symm,?_,chain hb b1⟩
         have h0:n / 2^p%2=0:=by have:=HO.out;omega
         rw [HH.out,h0,Nat.add_zero,Nat.pow_add]
         exact hv
       case measure=>simp [intOf]
theorem rootOf_le (a:Nat):rootOf a≤a:=by
 have:=root_sq a
 rcases Nat.eq_zero_or_pos (rootOf a) with h | h
 · omega
 · exact Nat.le_trans (Nat.le_mul_of_pos_left _ h) this
theorem root_start (a:Nat):rootOf a≤2^((bitlen a+1) / 2):=by
 rcases Nat.lt_or_ge (2^((bitlen a+1) / 2)) (rootOf a) with h | h
 · have h1:=Nat.mul_le_mul (Nat.le_of_lt h) (Nat.le_of_lt h)
   have h2:=root_sq a
   have h3:=bitlen_lt a
   have h4:2^bitlen a≤2^((bitlen a+1) / 2)*2^((bitlen a+1) / 2):=by
     rw [←Nat.pow_add];exact Nat.pow_le_pow_right (by omega) (by omega)
   omega
 · exact h
theorem len_two_pow (n:Nat):len (2^n)≤n / 64+1:=by
 apply len_le
 rw [W_pow,←Nat.pow_mul]
 exact Nat.pow_lt_pow_right (by omega) (by omega)
theorem root_any {w:World} {a:Nat} {va:Value} (ha:Nt w va a) (hs:len a≤1099511627) :
   Calls Tryz.prog 111 #[va] w (NatRet w (rootOf a)):=by
 rcases Nat.eq_zero_or_pos a with h0 | h0
 · subst h0
   rw [IsNat.zero' ha]
   go_enter Tryz.func111,Tryz.ntmps111
   go_wp2_with fail
   go_ret
   exact ⟨_,rfl,Nt.zero _,Below.refl _ _⟩
 · obtain ⟨A,c,ea,hc1,hc2,_⟩:=id ha
   subst ea
   have hl:=len_pos.2 h0
   have ht:(((len a:Nat):Int)==0)=false:=by rw [beq_eq_false_iff_ne];omega
   have hone:=one_nat w
   have b0:Below w.heap.size w (w.alloc (.cells #[.int .u64 1] 97)):=(Below.refl _ _).alloc (Nat.le_refl _) _
   have ha0:=ha.keep b0
   have hbl:=bitLength_any ha0 (by omega)
   have hb64:=bitlen_le a
   obtain ⟨q,hq⟩:=eX ((bitlen a+1) / 2)
   have hq2:(((bitlen a:Nat):Int)+1) / 2=((q:Nat):Int):=by omega
   have hst:=root_start a
   rw [←hq] at hst
   have hqb:q≤32*len a+1:=by omega
   have hlq:=len_two_pow q
   clear hq
   go_enter Tryz.func111,Tryz.ntmps111
   go_wp2_with fail
   refine hbl.mono ?_
   rintro e w' ⟨rfl,rfl⟩
   go_wp2_with fail
   refine (shl_any (n:=q) hone (by rw [len_one];omega) (by omega)).mono ?_
   rintro e w1 ⟨v,rfl,hv,b1⟩
   rw [Nat.one_mul] at hv
   go_wp2_with fail
   go_loopg [3] (2^q) (fun k xv wr=>∃ x:Nat,k=x∧Nt wr xv x∧rootOf a≤x∧0<x∧x≤2^q∧Below w.heap.size w wr)
   case atStart=>exact ⟨_,rfl,hv,hst,Nat.two_pow_pos q,Nat.le_refl _,chain b0 b1⟩
   case round =>
     obtain ⟨x,rfl,hx,hrx,hx0,hxq,hb⟩:=hrel
     have hax:=ha.keep hb
     have hlx:=len_mono hxq
     clear ha hv ha0 hone hbl hst
     go_wp2_with fail
     refine (div_any hax hx (by omega) hx0).mono ?_
     rintro e w2 ⟨vq,vr,rfl,hvq,hvr,b2⟩
     have hlq2:len (a / gk)≤len a:=len_mono (Nat.div_le_self _ _)
     have hx2:=hx.keep b2
     go_wp2_with fail
     refine (add_any hx2 hvq (by omega) (by omega)).mono ?_
     rintro e w3 ⟨vs,rfl,hvs,b3⟩
     have hls:=len_add_le gk (a / gk)
     have hx3:=hx2.keep b3
     go_wp2_with fail
     refine (shr_any (n:=1) hvs (by omega) (by omega)).mono ?_
     rintro e w4 ⟨vn,rfl,hvn,b4⟩
     rw [Nat.pow_one] at hvn
     have hx4:=hx3.keep b4
     have hnew:rootOf a≤(gk+a / gk) / 2:=newton_ge hx0 (root_sq a)
     have hcm:=cmp_any hvn hx4
     rcases Nat.lt_or_ge ((gk+a / gk) / 2) gk with hlt | hge
     · have hc:cmpN ((gk+a / gk) / 2) gk = -1:=by unfold cmpN;rw [if_pos hlt]
       rw [hc] at hcm
       go_wp2_with fail
       refine hcm.mono ?_
       rintro e w5 ⟨rfl,m,rfl⟩
       have hr1:1≤rootOf a:=root_max (by omega)
       go_wp2_with fail
       go_roundg ((gk+a / gk) / 2)
       case measure=>exact hlt
       case rel =>
         exact ⟨_,rfl,hvn.drewN m,hnew,Nat.lt_of_lt_of_le hr1 hnew,Nat.le_trans (Nat.le_of_lt hlt) hxq,chain (chain (chain (chain (chain hb b2) b3) b4) (below_drewN _ m)) (Below.refl _ _)⟩
     · have hc:decide (0≤cmpN ((gk+a / gk) / 2) gk)=true:=by
         unfold cmpN;rw [if_neg (by omega)];split <;> rfl
       have hroot:gk=rootOf a:=Nat.le_antisymm (root_max (newton_stop hx0 hge)) hrx
       have HR:=hid hroot
       clear hroot
       go_wp2_with fail
       refine hcm.mono ?_
       rintro e w5 ⟨rfl,m,rfl⟩
       go_wp2_with fail
       go_ret
       exact ⟨_,rfl,by rw [←HR.out];exact hx4.drewN m,chain (chain (chain (chain hb b2) b3) b4) (below_drewN _ m)⟩
end Go.Proofs.YtlcimajjnfbidaaGreatDoor
namespace Go.Proofs.YtlcimajjnfbidaaGreatDoor
open Lib (hid)
open Go.RowKit
open Vx
def DiffRel (w:World) (g N T S i miss:Nat) (wr:World):Prop :=
  ∃ cs,Below w.heap.size w wr∧Row wr g cs∧Hid (cs.length=N)∧Hid (seg cs 0 N+T=S+W^i*miss)
theorem diff_step {cs:List Nat} {N S T i miss d:Nat} (hl:cs.length=N) (hi:i<N) (hd:cs.getD i 0=d) (hdW:d<W) (hm:miss<W) (h:seg cs 0 N+T=S+W^i*miss) :
   seg (cs.set i (dlo d miss 0)) 0 N+T=S+W^(i+1)*dhi d miss 0:=by
 have e1:=seg_set (cs:=cs) (o:=0) (n:=N) (i:=i) (v:=dlo d miss 0) hi (by omega)
 simp only [Nat.zero_add] at e1
 rw [hd] at e1
 have e2:=dlohi (b:=0) hdW hm (by omega)
 have e3:=congrArg (W^i * ·) e2
 simp only [Nat.mul_add,←Nat.mul_assoc,Nat.add_zero] at e3
 rw [Nat.pow_succ]
 omega
theorem diff_end {N A B D k m:Nat} (h1:D+B+W^N*k=A+W^N*m) (hB:B≤A) (hA:A - B<W^N) (hD:D<W^N):D=A - B:=by
 obtain ⟨v,rfl⟩:∃ v,A=B+v:=⟨A - B,by omega⟩
 rw [Nat.add_sub_cancel_left] at *
 have h2:D+W^N*k=v+W^N*m:=by omega
 rcases Nat.lt_trichotomy k m with h | h | h
 · have:=Nat.mul_le_mul_left (W^N) (show k+1≤m from h);rw [Nat.mul_add] at this;omega
 · subst h;omega
 · have:=Nat.mul_le_mul_left (W^N) (show m+1≤k from h);rw [Nat.mul_add] at this;omega
theorem scaled_row {cs:List Nat} {n N x z c:Nat} (hN:n<N) (hl:cs.length=N) (h0:∀ j,n≤j→cs.getD j 0=0) (h:z+W^n*c=x) (hz:seg cs 0 n=z) :
   seg (cs.set n c) 0 N=x:=by
 obtain ⟨r,rfl⟩:∃ r,N=n+(1+r):=⟨N - n - 1,by omega⟩
 rw [seg_split,seg_split,seg_set_out (by omega),hz,Nat.zero_add]
 have e1:seg (cs.set n c) n 1=c:=by simp only [seg,Nat.pow_zero,Nat.one_mul,Nat.zero_add,Nat.add_zero];rw [getD_set,if_pos ⟨rfl,by omega⟩]
 have e2:seg (cs.set n c) (n+1) r=0:=seg_zero fun j _=>by rw [getD_set,if_neg (by omega)];exact h0 _ (by omega)
 rw [e1,e2,Nat.mul_zero,Nat.add_zero]
 exact h
theorem scaled_diff {cs cs':List Nat} {n N S z m t:Nat} (hN:n≤N) (hs:∀ i,n≤i→cs'.getD i 0=cs.getD i 0) (hS:seg cs 0 N=S) (hz:seg cs' 0 n=z) (h:z+t=seg cs 0 n+W^n*m) :
   seg cs' 0 N+t=S+W^n*m:=by
 obtain ⟨r,rfl⟩:∃ r,N=n+r:=⟨N - n,by omega⟩
 rw [seg_split] at hS ⊢
 rw [hz,Nat.zero_add,seg_congr (cs:=cs') (ds:=cs) (o:=n) (p:=n) (n:=r) (fun j _=>hs _ (by omega))]
 rw [Nat.zero_add] at hS
 omega
theorem difference_short {w:World} {a b x y:Nat} {va vb:Value} (ha:Nt w va a) (hb:Nt w vb b) (hx:x<W) (hy:y<W) (hs:len b≤1099511627776) (hl:len a<len b)
   (hle:b*y≤a*x) (hlt:a*x - b*y<W^len b) :
   Calls Tryz.prog 163 #[va,.int .u64 (x:Nat),vb,.int .u64 (y:Nat)] w (NatRet w (a*x - b*y)):=by
 obtain ⟨A,ca,ea,hca,hca2,_⟩:=id ha
 obtain ⟨A',cb,eb,hcb,hcb2,_⟩:=id hb
 subst ea
 subst eb
 have hmk:=mkNat (len b) (len b) rfl (by omega)
 have hms:=mk_size w (len b)
 have hmb:=mk_below w (len b)
 have hr0:=mk_row w (len b)
 have hsub:=@sub64c
 have hlt1:((len a:Nat):Int)<((len b:Nat):Int):=by omega
 have HLE:=hid hle;have HLT:=hid hlt
 clear hle hlt
 go_enter Tryz.func163,Tryz.ntmps163
 go_wp2_with fail
 refine (addScaled_any hr0 (by simp;omega) (IsNat.mono ha hmb (Nat.le_refl _)) (Nat.le_refl _) rfl hx).mono ?_
 rintro e w1 ⟨cs1,c1,rfl,hc1,hw1,hr1,hl1,hs1,hz1⟩
 rw [List.length_replicate] at hl1
 have k1:=hr1.cell (i:=len a) (by omega)
 have k2:=hr1.frozen (len a)
 generalize cs1.getD (len a) 0=d at k1
 have HL1:=hid hl1;have HS1:=hid hs1;have HZ1:=hid hz1
 clear hl1 hs1 hz1
 go_wp2_with fail
 have hr2:=hr1.set (i:=len a) hc1
 have hw2:=hw1.trans (Wrote.set w1 w.heap.size (len a) (.int .u64 (c1:Nat)))
 generalize w1.setCell ⟨w.heap.size,len a,none⟩ (.int .u64 (c1:Nat))=w2 at hr2 hw2 ⊢
 have bd2:Below w.heap.size w w2:=hmb.trans (hw2.below (by omega) (Nat.le_refl _))
 have hS:seg (cs1.set (len a) c1) 0 (len b)=a*x:=by
   refine scaled_row hl HL1.out (fun j hj=>?_) ?_ rfl
   · rw [HS1.out j (.inr (by omega)),getD_replicate]
   · have:=HZ1.out
     rwa [seg_zero (fun j _=>getD_replicate _ _),Nat.zero_add] at this
 have HS:=hid hS
 have hl2:(cs1.set (len a) c1).length=len b:=by rw [List.length_set,HL1.out]
 have HL2:=hid hl2
 generalize cs1.set (len a) c1=cs2 at hr2 HS HL2
 clear hS hl2 hr1 hw1 k1 k2
 go_wp2_with fail
 refine (subScaled_any hr2 (by rw [HL2.out];omega) (IsNat.mono hb bd2 (Nat.le_refl _)) (Nat.le_refl _) rfl hy).mono ?_
 rintro e w3 ⟨cs3,m,rfl,hm,hw3,hr3,hl3,-,hz3⟩
 have HL3:=hid hl3;have HZ3:=hid hz3
 clear hl3 hz3
 have hsz3:=bd2.size
 go_wp2_with fail
 refine wp_loop_rounds 1 ?_
 rw [rounds_succ]
 go_wp2_with fail
 refine (trim_any (hr3.reads (o:=0) (by rw [HL3.out,HL2.out];omega) (Nat.le_refl _) (by omega))).mono ?_
 rintro e w4 ⟨v,rfl,hv,rfl⟩
 go_wp2_with fail
 go_ret
 refine NatKept.made ⟨v,rfl,hv,rfl⟩ (bd2.trans (hw3.below hsz3 (Nat.le_refl _))) hr3.lt ?_
 have e1:=HZ3.out
 rw [HS.out] at e1
 exact diff_end (k:=0) (m:=m) (N:=len b) (by rw [Nat.mul_zero,Nat.add_zero];exact e1) HLE.out HLT.out (seg_lt hr3.2 _ _)
theorem difference_long {w:World} {a b x y:Nat} {va vb:Value} (ha:Nt w va a) (hb:Nt w vb b) (hx:x<W) (hy:y<W) (hs:len a≤1099511627776) (hl:len b≤len a)
   (hle:b*y≤a*x) (hlt:a*x - b*y<W^len a) :
   Calls Tryz.prog 163 #[va,.int .u64 (x:Nat),vb,.int .u64 (y:Nat)] w (NatRet w (a*x - b*y)):=by
 obtain ⟨A,ca,ea,hca,hca2,_⟩:=id ha
 obtain ⟨A',cb,eb,hcb,hcb2,_⟩:=id hb
 subst ea
 subst eb
 have hmk:=mkNat (len a) (len a) rfl (by omega)
 have hms:=mk_size w (len a)
 have hmb:=mk_below w (len a)
 have hr0:=mk_row w (len a)
 have hsub:=@sub64c
 have HLE:=hid hle;have HLT:=hid hlt
 clear hle hlt
 go_enter Tryz.func163,Tryz.ntmps163
 go_wp2_with fail
 refine (addScaled_any hr0 (by simp) (IsNat.mono ha hmb (Nat.le_refl _)) (Nat.le_refl _) rfl hx).mono ?_
 rintro e w1 ⟨cs1,c1,rfl,hc1,hw1,hr1,hl1,hs1,hz1⟩
 rw [List.length_replicate] at hl1
 rw [seg_zero (fun j _=>getD_replicate _ _),Nat.zero_add] at hz1
 have HL1:=hid hl1;have HZ1:=hid hz1
 have bd1:Below w.heap.size w w1:=hmb.trans (hw1.below (by omega) (Nat.le_refl _))
 have hsz1:=bd1.size
 clear hl1 hs1 hz1
 go_wp2_with fail
 refine (subScaled_any hr1 (by rw [HL1.out];omega) (IsNat.mono hb bd1 (Nat.le_refl _)) (Nat.le_refl _) rfl hy).mono ?_
 rintro e w3 ⟨cs3,m,rfl,hm,hw3,hr3,hl3,hs3,hz3⟩
 have HL3:=hid hl3;have HS3:=hid hs3;have HZ3:=hid hz3
 have bd3:=bd1.trans (hw3.below hsz1 (Nat.le_refl _))
 clear hl3 hz3 hs3
 have hm':m<18446744073709551616:=hm
 go_wp2_with fail
 go_loopw [11,12] (fun mv iv wr=>∃ i miss:Nat,i≤len a∧len b≤i∧iv=.int .i64 i∧mv=.int .u64 miss∧miss<18446744073709551616∧DiffRel w w.heap.size (len a) (b*y) (seg cs1 0 (len a)) i miss wr) (fun _ iv _=>len a - (intOf iv).toNat)
 case atStart =>
   refine ⟨len b,m,hl,Nat.le_refl _,rfl,rfl,hm,cs3,bd3,hr3,(by show _=_;rw [HL3.out,HL1.out]),?_⟩
   exact scaled_diff hl (fun i hi=>HS3.out i (.inr (by omega))) rfl rfl HZ3.out
 case round =>
   obtain ⟨i,miss,hi,hbi,rfl,rfl,hmiss,cs,hbw,hr,HL,HE⟩:=hrel
   have c1':=fun (h:i<len a)=>hr.cell (i:=i) (by rw [HL.out];exact h)
   have c2:=hr.frozen i
   have hdW:=hr.getD_lt i
   generalize hdd:cs.getD i 0=d at c1' hdW
   have HD:=hid hdd
   clear hdd
   by_cases hlt:i<len a
   · have c1:=c1' hlt
     clear c1'
     go_wp2_with fail
     go_roundw
     case rel =>
       refine ⟨i+1,dhi d miss 0,by omega,by omega,by go_num,rfl,by have:=dhi_le d miss 0;omega,cs.set i (dlo d miss 0),?_,hr.set (dlo_lt _ _ _),(by show _=_;rw [List.length_set,HL.out]),diff_step HL.out hlt HD.out hdW hmiss HE.out⟩
       exact hbw.trans ((Wrote.set wr w.heap.size i (.int .u64 (dlo d miss 0:Nat))).below hbw.size (Nat.le_refl _))
     case measure=>simp [intOf];omega
   · obtain rfl:i=len a:=by omega
     clear c1'
     have hgr:=hr.lt
     go_wp2_with fail
     refine (trim_any (hr.reads (o:=0) (by rw [HL.out];omega) (Nat.le_refl _) (by omega))).mono ?_
     rintro e w4 ⟨v,rfl,hv,rfl⟩
     go_wp2_with fail
     go_ret
     refine NatKept.made ⟨v,rfl,hv,rfl⟩ hbw hgr ?_
     refine diff_end (k:=c1) (m:=miss) ?_ HLE.out HLT.out (seg_lt hr.2 _ _)
     have e1:=HE.out
     have e2:=HZ1.out
     omega
theorem difference_any {w:World} {a b x y:Nat} {va vb:Value} (ha:Nt w va a) (hb:Nt w vb b) (hx:x<W) (hy:y<W) (hs:len a≤1099511627776) (ht:len b≤1099511627776)
   (hle:b*y≤a*x) (hlt:a*x - b*y<W^max (len a) (len b)) :
   Calls Tryz.prog 163 #[va,.int .u64 (x:Nat),vb,.int .u64 (y:Nat)] w (NatRet w (a*x - b*y)):=by
 rcases Nat.lt_or_ge (len a) (len b) with h | h
 · exact difference_short ha hb hx hy ht h hle (by rwa [Nat.max_eq_right (Nat.le_of_lt h)] at hlt)
 · exact difference_long ha hb hx hy hs h hle (by rwa [Nat.max_eq_left h] at hlt)
end Go.Proofs.YtlcimajjnfbidaaGreatDoor
namespace Vx
def StepOk (a b a0 a1 b0 b1:Nat) (ev:Bool):Prop :=
  ∃ x y:Nat,y≤x∧x+y≤a∧Nat.gcd x y=Nat.gcd a b ∧
    (if ev then b0*b+x=a0*a∧a1*a+y=b1*b else a0*a+x=b0*b∧b1*b+y=a1*a)
def LehInv (T N top next a1 b1 a2 b2:Nat) (ev:Bool):Prop :=
  (if ev then top+a1*T=b1*N∧next+b2*N=a2*T∧a2*b1=a1*b2+1
   else top+b1*N=a1*T∧next+a2*T=b2*N∧a1*b2=a2*b1+1) ∧
  a2≤b2∧a1+a2≤b1+b2∧1≤b2∧next≤top
theorem leh_start {T N:Nat} (h:N≤T):LehInv T N T N 1 0 0 1 false:=by
 unfold LehInv
 refine ⟨?_,by omega,by omega,by omega,h⟩
 simp
theorem leh_T {T N top next a1 b1 a2 b2:Nat} {ev:Bool} (h:LehInv T N top next a1 b1 a2 b2 ev):b2*top+b1*next=T:=by
 unfold LehInv at h
 obtain ⟨h,-⟩:=h
 cases ev
 · simp only [Bool.false_eq_true,if_false] at h
   obtain ⟨h1,h2,h3⟩:=h
   have e1:=congrArg (b2 * ·) h1
   have e2:=congrArg (b1 * ·) h2
   have e3:=congrArg (· * T) h3
   simp only [Nat.mul_add,Nat.add_mul,Nat.one_mul] at e1 e2 e3
   have e4:b2*(b1*N)=b1*(b2*N):=Nat.mul_left_comm _ _ _
   have e5:b2*(a1*T)=a1*b2*T:=by rw [←Nat.mul_assoc,Nat.mul_comm b2]
   have e6:b1*(a2*T)=a2*b1*T:=by rw [←Nat.mul_assoc,Nat.mul_comm b1]
   omega
 · simp only [if_true] at h
   obtain ⟨h1,h2,h3⟩:=h
   have e1:=congrArg (b2 * ·) h1
   have e2:=congrArg (b1 * ·) h2
   have e3:=congrArg (· * T) h3
   simp only [Nat.mul_add,Nat.add_mul,Nat.one_mul] at e1 e2 e3
   have e4:b2*(b1*N)=b1*(b2*N):=Nat.mul_left_comm _ _ _
   have e5:b2*(a1*T)=a1*b2*T:=by rw [←Nat.mul_assoc,Nat.mul_comm b2]
   have e6:b1*(a2*T)=a2*b1*T:=by rw [←Nat.mul_assoc,Nat.mul_comm b1]
   omega
theorem leh_step {T N top next a1 b1 a2 b2:Nat} {ev:Bool} (h:LehInv T N top next a1 b1 a2 b2 ev) (hn:0<next) :
   LehInv T N next (top%next) a2 b2 (a1+top / next*a2) (b1+top / next*b2) (!ev):=by
 have hq:1≤top / next:=by
   rw [Nat.le_div_iff_mul_le hn]
   have:=h.2.2.2.2
   omega
 have hd:=Nat.div_add_mod top next
 have hm:=Nat.mod_lt top hn
 unfold LehInv at *
 obtain ⟨h,h4,h5,h6,h7⟩:=h
 generalize top / next=q at *
 generalize top%next=r at *
 have hb:a2≤q*a2:=Nat.le_mul_of_pos_left _ hq
 have hb2:b2≤q*b2:=Nat.le_mul_of_pos_left _ hq
 have hqq:q*a2+b2≤q*b2+a2:=by
   obtain ⟨d,rfl⟩:∃ d,b2=a2+d:=⟨b2 - a2,by omega⟩
   rw [Nat.mul_add]
   have:=Nat.le_mul_of_pos_left d hq
   omega
 refine ⟨?_,by omega,by omega,by omega,by omega⟩
 cases ev
 · simp only [Bool.false_eq_true,if_false,Bool.not_false,if_true] at h ⊢
   obtain ⟨h1,h2,h3⟩:=h
   refine ⟨h2,?_,?_⟩
   · have e1:=congrArg (q * ·) h2
     simp only [Nat.mul_add] at e1
     simp only [Nat.add_mul]
     have e2:next*q=q*next:=Nat.mul_comm _ _
     have e3:q*(a2*T)=q*a2*T:=(Nat.mul_assoc _ _ _).symm
     have e4:q*(b2*N)=q*b2*N:=(Nat.mul_assoc _ _ _).symm
     omega
   · simp only [Nat.add_mul,Nat.mul_add]
     have e3:q*a2*b2=a2*(q*b2):=by rw [Nat.mul_assoc,Nat.mul_left_comm]
     omega
 · simp only [if_true,Bool.not_true,Bool.false_eq_true,if_false] at h ⊢
   obtain ⟨h1,h2,h3⟩:=h
   refine ⟨h2,?_,?_⟩
   · have e1:=congrArg (q * ·) h2
     simp only [Nat.mul_add] at e1
     simp only [Nat.add_mul]
     have e2:next*q=q*next:=Nat.mul_comm _ _
     have e3:q*(a2*T)=q*a2*T:=(Nat.mul_assoc _ _ _).symm
     have e4:q*(b2*N)=q*b2*N:=(Nat.mul_assoc _ _ _).symm
     omega
   · simp only [Nat.add_mul,Nat.mul_add]
     have e3:q*a2*b2=a2*(q*b2):=by rw [Nat.mul_assoc,Nat.mul_left_comm]
     omega
theorem gcd_uni {a b x y p q r s:Nat} (h1:a=p*x+q*y) (h2:b=r*x+s*y) (h3:∀ d,d∣a→d∣b→d∣x) (h4:∀ d,d∣a→d∣b→d∣y):Nat.gcd x y=Nat.gcd a b:=by
 apply Nat.dvd_antisymm
 · apply Nat.dvd_gcd
   · rw [h1];exact Nat.dvd_add (Nat.dvd_mul_left_of_dvd (Nat.gcd_dvd_left x y) _) (Nat.dvd_mul_left_of_dvd (Nat.gcd_dvd_right x y) _)
   · rw [h2];exact Nat.dvd_add (Nat.dvd_mul_left_of_dvd (Nat.gcd_dvd_left x y) _) (Nat.dvd_mul_left_of_dvd (Nat.gcd_dvd_right x y) _)
 · exact Nat.dvd_gcd (h3 _ (Nat.gcd_dvd_left a b) (Nat.gcd_dvd_right a b)) (h4 _ (Nat.gcd_dvd_left a b) (Nat.gcd_dvd_right a b))
theorem dvd_of_sum {d u v x:Nat} (h:u+x=v) (hu:d∣u) (hv:d∣v):d∣x:=(Nat.dvd_add_right hu).1 (h ▸ hv)
theorem leh_ok {T N top next a1 b1 a2 b2 a b la lb K:Nat} {ev:Bool} (h:LehInv T N top next a1 b1 a2 b2 ev) (ha:a=T*K+la) (hb:b=N*K+lb) (hla:la≤K) (hlb:lb≤K)
   (ht1:b2≤next) (ht2:b1+b2+next≤top) (hb1:0<b1):StepOk a b a1 a2 b1 b2 (!ev):=by
 have hT:=leh_T h
 unfold LehInv at h
 obtain ⟨h,h4,h5,h6,h7⟩:=h
 have p1:b1*K+b2*K+next*K≤top*K:=by rw [←Nat.add_mul,←Nat.add_mul];exact Nat.mul_le_mul_right _ ht2
 have p2:b2*K≤next*K:=Nat.mul_le_mul_right _ ht1
 have p3:a2*K≤b2*K:=Nat.mul_le_mul_right _ h4
 have p4:a1*K+a2*K≤b1*K+b2*K:=by rw [←Nat.add_mul,←Nat.add_mul];exact Nat.mul_le_mul_right _ h5
 have q1:a1*la≤a1*K:=Nat.mul_le_mul_left _ hla
 have q2:a2*la≤a2*K:=Nat.mul_le_mul_left _ hla
 have q3:b1*lb≤b1*K:=Nat.mul_le_mul_left _ hlb
 have q4:b2*lb≤b2*K:=Nat.mul_le_mul_left _ hlb
 have ea1:a1*a=a1*T*K+a1*la:=by rw [ha,Nat.mul_add,Nat.mul_assoc]
 have ea2:a2*a=a2*T*K+a2*la:=by rw [ha,Nat.mul_add,Nat.mul_assoc]
 have eb1:b1*b=b1*N*K+b1*lb:=by rw [hb,Nat.mul_add,Nat.mul_assoc]
 have eb2:b2*b=b2*N*K+b2*lb:=by rw [hb,Nat.mul_add,Nat.mul_assoc]
 have fin:∀ x y:Nat,y≤x→a=b2*x+b1*y→b=a2*x+a1*y→(∀ d,d∣a→d∣b→d∣x)→(∀ d,d∣a→d∣b→d∣y)→y≤x∧x+y≤a∧Nat.gcd x y=Nat.gcd a b:=by
   intro x y hxy e1 e2 h3 h4
   have g1:=Nat.le_mul_of_pos_left x h6
   have g2:=Nat.le_mul_of_pos_left y hb1
   exact ⟨hxy,by omega,gcd_uni e1 e2 h3 h4⟩
 cases ev
 · simp only [Bool.false_eq_true,if_false] at h
   obtain ⟨h1,h2,h3⟩:=h
   have k1:=congrArg (· * K) h1
   have k2:=congrArg (· * K) h2
   simp only [Nat.add_mul] at k1 k2
   obtain ⟨x,hx⟩:∃ x,b1*b+x=a1*a:=⟨a1*a - b1*b,by omega⟩
   obtain ⟨y,hy⟩:∃ y,a2*a+y=b2*b:=⟨b2*b - a2*a,by omega⟩
   obtain ⟨f1,f2,f3⟩:=fin x y (by omega)
     (by
       have e1:=congrArg (b2 * ·) hx
       have e2:=congrArg (b1 * ·) hy
       have e3:=congrArg (· * a) h3
       simp only [Nat.mul_add,Nat.add_mul,Nat.one_mul,←Nat.mul_assoc] at e1 e2 e3
       rw [Nat.mul_comm b2 b1,Nat.mul_comm b2 a1] at e1
       rw [Nat.mul_comm b1 a2] at e2
       omega)
     (by
       have e1:=congrArg (a2 * ·) hx
       have e2:=congrArg (a1 * ·) hy
       have e3:=congrArg (· * b) h3
       simp only [Nat.mul_add,Nat.add_mul,Nat.one_mul,←Nat.mul_assoc] at e1 e2 e3
       rw [Nat.mul_comm a1 a2] at e2
       omega)
     (fun d hda hdb=>dvd_of_sum hx (Nat.dvd_mul_left_of_dvd hdb _) (Nat.dvd_mul_left_of_dvd hda _))
     (fun d hda hdb=>dvd_of_sum hy (Nat.dvd_mul_left_of_dvd hda _) (Nat.dvd_mul_left_of_dvd hdb _))
   exact ⟨x,y,f1,f2,f3,by simp only [Bool.not_false,if_true];exact ⟨hx,hy⟩⟩
 · simp only [if_true] at h
   obtain ⟨h1,h2,h3⟩:=h
   have k1:=congrArg (· * K) h1
   have k2:=congrArg (· * K) h2
   simp only [Nat.add_mul] at k1 k2
   obtain ⟨x,hx⟩:∃ x,a1*a+x=b1*b:=⟨b1*b - a1*a,by omega⟩
   obtain ⟨y,hy⟩:∃ y,b2*b+y=a2*a:=⟨a2*a - b2*b,by omega⟩
   obtain ⟨f1,f2,f3⟩:=fin x y (by omega)
     (by
       have e1:=congrArg (b2 * ·) hx
       have e2:=congrArg (b1 * ·) hy
       have e3:=congrArg (· * a) h3
       simp only [Nat.mul_add,Nat.add_mul,Nat.one_mul,←Nat.mul_assoc] at e1 e2 e3
       rw [Nat.mul_comm b2 b1,Nat.mul_comm b2 a1] at e1
       rw [Nat.mul_comm b1 a2] at e2
       omega)
     (by
       have e1:=congrArg (a2 * ·) hx
       have e2:=congrArg (a1 * ·) hy
       have e3:=congrArg (· * b) h3
       simp only [Nat.mul_add,Nat.add_mul,Nat.one_mul,←Nat.mul_assoc] at e1 e2 e3
       rw [Nat.mul_comm a1 a2] at e2
       omega)
     (fun d hda hdb=>dvd_of_sum hx (Nat.dvd_mul_left_of_dvd hda _) (Nat.dvd_mul_left_of_dvd hdb _))
     (fun d hda hdb=>dvd_of_sum hy (Nat.dvd_mul_left_of_dvd hdb _) (Nat.dvd_mul_left_of_dvd hda _))
   exact ⟨x,y,f1,f2,f3,by simp only [Bool.not_true,Bool.false_eq_true,if_false];exact ⟨hx,hy⟩⟩
end Vx
namespace Go.Proofs.YtlcimajjnfbidaaGreatDoor
open Lib (hid)
open Go.RowKit
open Vx
theorem top_word {h l s:Nat} (hs:s≤63) (hh:h*2^s<W) (hl:l<W) :
   bits .or .u64 (IntKind.u64.wrap (((h:Nat):Int)*2^s)) (((l:Nat):Int) / 2^(64 - s))=(((h*W+l) / 2^(64 - s):Nat):Int):=by
 have e1:IntKind.u64.wrap (((h:Nat):Int)*2^s)=((h*2^s:Nat):Int):=by
   have hh':h*2^s<18446744073709551616:=hh
   rw [cast_two,←Int.natCast_mul,IntKind.wrap_u64];omega
 have e2:((l:Nat):Int) / 2^(64 - s)=((l / 2^(64 - s):Nat):Int):=by rw [cast_two,←Int.natCast_ediv]
 have hd:l / 2^(64 - s)<2^s:=by
   rw [Nat.div_lt_iff_lt_mul (Nat.two_pow_pos _),←two_W (by omega)];exact hl
 rw [e1,e2,bits_or_u64_nat _ _ hh (Nat.lt_of_le_of_lt (Nat.div_le_self _ _) hl)]
 congr 1
 rw [Nat.mul_comm h,←Nat.two_pow_add_eq_or_of_lt hd,two_W (r:=s) (by omega),Nat.mul_comm (2^s) (2^(64 - s)),Nat.mul_left_comm,Nat.mul_comm h (2^s)]
 rw [Nat.mul_add_div (Nat.two_pow_pos _)]
def StepsRet (w:World) (a b:Nat) (e:Ending) (w':World):Prop :=
  ∃ (a0 a1 b0 b1:Nat) (ev:Bool),e=.returned (.agg #[.int .u64 (a0:Nat),.int .u64 (a1:Nat),.int .u64 (b0:Nat),.int .u64 (b1:Nat),.bool ev]) ∧
    a0<W∧a1<W∧b0<W∧b1<W∧(b0=0∨StepOk a b a0 a1 b0 b1 ev)∧Below w.heap.size w w'
def StepsRel (w:World) (gs a b T N top next a2 b2:Nat) (wr:World):Prop :=
  ∃ (a0 a1 b0 b1:Nat) (ev:Bool),Below w.heap.size w wr∧a0<18446744073709551616∧a1<18446744073709551616∧b0<18446744073709551616∧b1<18446744073709551616 ∧
    (∃ r0 r1 r2 r3 r4,wr.heap[gs - 1]?=some (.cells #[r0,r1,r2,r3,r4] 149 (0,0)))∧wr.heap[gs]?=some (.cells #[.int .u64 (a0:Nat),.int .u64 (a1:Nat),.int .u64 (b0:Nat),.int .u64 (b1:Nat),.bool ev] 149 (0,0)) ∧
    Hid (LehInv T N top next a1 b1 a2 b2 ev)∧Hid (b0=0∨StepOk a b a0 a1 b0 b1 ev)
theorem steps_start (w:World) (n a b T N:Nat) (h:N≤T) :
   StepsRel w (w.heap.size+1) a b T N T N 0 1 (((w.alloc (.cells #[.int .u64 0,.int .u64 0,.int .u64 0,.int .u64 0,.bool false] 149)).drewN n).alloc (.cells #[.int .u64 0,.int .u64 1,.int .u64 0,.int .u64 0,.bool false] 149)):=by
 have b1:Below w.heap.size w (w.alloc (.cells #[.int .u64 0,.int .u64 0,.int .u64 0,.int .u64 0,.bool false] 149)):=(Below.refl _ _).alloc (Nat.le_refl _) _
 have b2:Below w.heap.size w ((w.alloc (.cells #[.int .u64 0,.int .u64 0,.int .u64 0,.int .u64 0,.bool false] 149)).drewN n):=chain b1 (below_drewN _ n)
 have g1:=heap_alloc_new w (.cells #[.int .u64 0,.int .u64 0,.int .u64 0,.int .u64 0,.bool false] 149)
 have hsz:((w.alloc (.cells #[.int .u64 0,.int .u64 0,.int .u64 0,.int .u64 0,.bool false] 149)).drewN n).heap.size=w.heap.size+1:=by
   show (w.alloc _).heap.size=_
   simp
 have g1':((w.alloc (.cells #[.int .u64 0,.int .u64 0,.int .u64 0,.int .u64 0,.bool false] 149)).drewN n).heap[w.heap.size]?=some (.cells #[.int .u64 0,.int .u64 0,.int .u64 0,.int .u64 0,.bool false] 149):=g1
 generalize (w.alloc (.cells #[.int .u64 0,.int .u64 0,.int .u64 0,.int .u64 0,.bool false] 149)).drewN n=w1 at *
 refine ⟨0,1,0,0,false,b2.alloc (by omega) _,by omega,by omega,by omega,by omega,⟨.int .u64 0,.int .u64 0,.int .u64 0,.int .u64 0,.bool false,?_⟩,?_,leh_start h,.inl rfl⟩
 · rw [Nat.add_sub_cancel,Below.heap_alloc _ _ _ (by omega)];exact g1'
 · rw [←hsz];exact heap_alloc_new w1 _
theorem steps_next {w wr:World} {a b T N top next a0 a1 b0 b1 a2 b2 u v nq:Nat} {ev:Bool} {r0 r1 r2 r3 r4:Value} (hbw:Below w.heap.size w wr)
   (hres:wr.heap[w.heap.size]?=some (.cells #[r0,r1,r2,r3,r4] 149 (0,0)))
   (hst:wr.heap[w.heap.size+1]?=some (.cells #[.int .u64 (a0:Nat),.int .u64 (a1:Nat),.int .u64 (b0:Nat),.int .u64 (b1:Nat),.bool ev] 149 (0,0)))
   (ha1:a1<18446744073709551616) (ha2:a2<18446744073709551616) (hb1:b1<18446744073709551616) (hb2:b2<18446744073709551616)
   (h1:LehInv T N top next a2 b2 u v (!ev)) (h2:b1=0∨StepOk a b a1 a2 b1 b2 (!ev)) :
   StepsRel w (w.heap.size+1) a b T N top next u v
     ((((((wr.drewN nq).setCell ⟨w.heap.size+1,0,none⟩ (.int .u64 (a1:Nat))).setCell ⟨w.heap.size+1,1,none⟩ (.int .u64 (a2:Nat))).setCell ⟨w.heap.size+1,2,none⟩ (.int .u64 (b1:Nat))).setCell
       ⟨w.heap.size+1,3,none⟩ (.int .u64 (b2:Nat))).setCell ⟨w.heap.size+1,4,none⟩ (.bool (!ev))):=by
 have g0:(wr.drewN nq).heap[w.heap.size+1]?=_:=hst
 have q0:(wr.drewN nq).heap[w.heap.size]?=_:=hres
 have bq:Below w.heap.size w (wr.drewN nq):=hbw.trans ⟨rfl,rfl,rfl,Nat.le_refl _,fun _ _=>rfl⟩
 generalize wr.drewN nq=wq at g0 q0 bq ⊢
 have g1:=heap_setCell_same wq _ 0 _ _ (.int .u64 (a1:Nat)) g0
 have g2:=heap_setCell_same _ _ 1 _ _ (.int .u64 (a2:Nat)) g1
 have g3:=heap_setCell_same _ _ 2 _ _ (.int .u64 (b1:Nat)) g2
 have g4:=heap_setCell_same _ _ 3 _ _ (.int .u64 (b2:Nat)) g3
 have g5:=heap_setCell_same _ _ 4 _ _ (.bool (!ev)) g4
 refine ⟨a1,a2,b1,b2,!ev,?_,ha1,ha2,hb1,hb2,⟨r0,r1,r2,r3,r4,?_⟩,g5,h1,h2⟩
 · exact ((((bq.setCell (Nat.le_succ _) _).setCell (Nat.le_succ _) _).setCell (Nat.le_succ _) _).setCell (Nat.le_succ _) _).setCell (Nat.le_succ _) _
 · rw [Nat.add_sub_cancel]
   rw [heap_setCell_other _ _ _ _ (by simp),heap_setCell_other _ _ _ _ (by simp),heap_setCell_other _ _ _ _ (by simp),heap_setCell_other _ _ _ _ (by simp),heap_setCell_other _ _ _ _ (by simp)]
   exact q0
theorem tops_a {a s:Nat} (hl:2≤len a) (hs:s=64 - bitlen (word a (len a - 1))) :
   word a (len a - 1)*2^s<W∧(word a (len a - 1)*W+word a (len a - 2)) / 2^(64 - s)=a / (W^(len a - 2)*2^(64 - s)):=by
 have h0:=len_pos.1 (show 0<len a by omega)
 obtain ⟨e1,e2⟩:=word_top h0
 have hw:=word_lt a (len a - 1)
 refine ⟨?_,?_⟩
 · have hbl:bitlen (word a (len a - 1))=(word a (len a - 1)).log2+1:=by unfold bitlen;rw [if_neg (by omega)]
   rw [hbl] at hs
   generalize word a (len a - 1)=t at *
   have hlog:t.log2<64:=(Nat.log2_lt (by omega)).2 (by rw [←W_pow];exact hw)
   have h2:t<2^(t.log2+1):=Nat.lt_log2_self
   have:=Nat.mul_lt_mul_of_pos_right h2 (Nat.two_pow_pos s)
   rwa [←Nat.pow_add,show t.log2+1+s=64 by omega,←W_pow] at this
 · rw [←Nat.div_div_eq_div_mul]
   congr 1
   rw [div_step a (len a - 2),show len a - 2+1=len a - 1 by omega,←e1]
   rw [Nat.mul_comm W,Nat.add_comm]
theorem tops_b {a b s:Nat} (hl:2≤len a) (hba:b≤a) (hlb:len b=len a) (hs:s=64 - bitlen (word a (len a - 1))) :
   word b (len a - 1)*2^s<W∧(word b (len a - 1)*W+word b (len a - 2)) / 2^(64 - s)=b / (W^(len a - 2)*2^(64 - s)):=by
 have h0:=len_pos.1 (show 0<len b by omega)
 obtain ⟨e1,e2⟩:=word_top h0
 have g0:=len_pos.1 (show 0<len a by omega)
 obtain ⟨f1,f2⟩:=word_top g0
 rw [hlb] at e1
 refine ⟨?_,?_⟩
 · have h1:word b (len a - 1)≤word a (len a - 1):=by rw [e1,f1];exact Nat.div_le_div_right hba
   exact Nat.lt_of_le_of_lt (Nat.mul_le_mul_right _ h1) (tops_a hl hs).1
 · rw [←Nat.div_div_eq_div_mul]
   congr 1
   rw [div_step b (len a - 2),show len a - 2+1=len a - 1 by omega,←e1]
   rw [Nat.mul_comm W,Nat.add_comm]
theorem stepsOf_same {w:World} {a b:Nat} {va vb:Value} (ha:Nt w va a) (hb:Nt w vb b) (hs:len a≤1099511627776) (hba:b≤a) (hl2:2≤len b) (hl:len b=len a) :
   Calls Tryz.prog 129 #[va,vb] w (StepsRet w a b):=by
 obtain ⟨A,ca,ea,hca,hca2,_,hp⟩:=id ha
 obtain ⟨A',cb,eb,hcb,hcb2,_,hp'⟩:=id hb
 obtain ⟨g,o,rfl,hg,hcell⟩:=hp (len_pos.1 (by omega))
 obtain ⟨g',o',rfl,hg',hcell'⟩:=hp' (len_pos.1 (by omega))
 subst ea
 subst eb
 have c1:=hcell (len a - 1) (by omega)
 have c2:=hcell (len a - 2) (by omega)
 have d1:=hcell' (len a - 1) (by omega)
 have d2:=hcell' (len a - 2) (by omega)
 have hlz:=lz64_any (word a (len a - 1)) (word_lt _ _)
 obtain ⟨s,hsd⟩:=eX (64 - bitlen (word a (len a - 1)))
 rw [←hsd] at hlz
 have hs63:s≤63:=(norm (len_pos.1 (by omega)) hsd).1
 have hs64:(s:Int)≤63:=by omega
 have HL:=hid hl
 have e1:((len b:Nat):Int)=((len a:Nat):Int):=by omega
 have HS:=hid hsd
 clear hl hsd hcell hcell' hp hp'
 have hl1:2≤len a:=by have:=HL.out;omega
 rw [HL.out]
 go_enter Tryz.func129,Tryz.ntmps129
 go_wp2_with fail
 refine (hlz _).mono ?_
 rintro e w' ⟨rfl,rfl⟩
 have hx1:=word_lt a (len a - 1)
 have hx2:=word_lt a (len a - 2)
 have hy1:=word_lt b (len a - 1)
 have hy2:=word_lt b (len a - 2)
 have i1:(2:Int)≤((len a:Nat):Int):=by omega
 have TA:=hid (tops_a (a:=a) hl1 HS.out)
 have TB:=hid (tops_b (a:=a) (b:=b) hl1 hba HL.out HS.out)
 generalize word a (len a - 1)=x1 at *
 generalize word a (len a - 2)=x2 at *
 generalize word b (len a - 1)=y1 at *
 generalize word b (len a - 2)=y2 at *
 have T1:=hid (top_word (h:=x1) (l:=x2) hs63 TA.out.1 hx2)
 have T2:=hid (top_word (h:=y1) (l:=y2) hs63 TB.out.1 hy2)
 go_wp2_with fail
 go_quiet (fail)
 rw [T1.out]
 generalize hT:(x1*W+x2) / 2^(64 - s)=T at *
 go_wp2_with fail
 go_quiet (fail)
 rw [T2.out]
 generalize hN:(y1*W+y2) / 2^(64 - s)=N at *
 have hTa:T=a / (W^(len a - 2)*2^(64 - s)):=TA.out.2
 have hNb:N=b / (W^(len a - 2)*2^(64 - s)):=TB.out.2
 have HT:=hid hTa;have HN:=hid hNb
 have hNT:N≤T:=by rw [hTa,hNb];exact Nat.div_le_div_right hba
 have hTW:T<18446744073709551616:=by
   rw [←hT,Nat.div_lt_iff_lt_mul (Nat.two_pow_pos _)]
   have h1:=TA.out.1
   have h3:W=2^s*2^(64 - s):=two_W (by omega)
   have h4:x1+1≤2^(64 - s):=by
     apply Nat.lt_of_mul_lt_mul_right (a:=2^s)
     rw [Nat.mul_comm (2^(64 - s)),←h3];exact h1
   have h5:=Nat.mul_le_mul_left W h4
   rw [Nat.mul_add,Nat.mul_one,Nat.mul_comm W x1] at h5
   have h6:W*2^(64 - s)=18446744073709551616*2^(64 - s):=rfl
   omega
 clear hT hN hTa hNb TA TB T1 T2 c1 c2 d1 d2 hx1 hx2 hy1 hy2
 go_wp2_with fail
 go_loopw [7,8,10,11] (fun tv nv av bv wr=>∃ top next a2 b2:Nat,tv=.int .u64 top∧nv=.int .u64 next∧av=.int .u64 a2∧bv=.int .u64 b2∧top<18446744073709551616∧next≤top∧a2<18446744073709551616∧b2<18446744073709551616∧StepsRel w (w.heap.size+1) a b T N top next a2 b2 wr) (fun _ nv _ _ _=>(intOf nv).toNat)
 case atStart=>exact ⟨T,N,0,1,rfl,rfl,rfl,rfl,hTW,hNT,by omega,by omega,steps_start _ _ _ _ _ _ hNT⟩
 case round =>
   obtain ⟨top,next,a2,b2,rfl,rfl,rfl,rfl,htop,hnt,ha2,hb2,a0,a1,b0,b1,ev,hbw,ha0',ha1',hb0',hb1',⟨r0,r1,r2,r3,r4,hres⟩,hst,HI,HO⟩:=hrel
   rw [Nat.add_sub_cancel] at hres
   have k0:wr.cell? ⟨w.heap.size+1,0,none⟩=some (.int .u64 (a0:Nat)):=cell_of_row wr _ 0 _ _ _ hst
   have k1:wr.cell? ⟨w.heap.size+1,1,none⟩=some (.int .u64 (a1:Nat)):=cell_of_row wr _ 1 _ _ _ hst
   have k2:wr.cell? ⟨w.heap.size+1,2,none⟩=some (.int .u64 (b0:Nat)):=cell_of_row wr _ 2 _ _ _ hst
   have k3:wr.cell? ⟨w.heap.size+1,3,none⟩=some (.int .u64 (b1:Nat)):=cell_of_row wr _ 3 _ _ _ hst
   have k4:wr.cell? ⟨w.heap.size+1,4,none⟩=some (.bool ev):=cell_of_row wr _ 4 _ _ _ hst
   have m0:wr.cell? ⟨w.heap.size,0,none⟩=some r0:=cell_of_row wr _ 0 _ _ _ hres
   have m1:wr.cell? ⟨w.heap.size,1,none⟩=some r1:=cell_of_row wr _ 1 _ _ _ hres
   have m2:wr.cell? ⟨w.heap.size,2,none⟩=some r2:=cell_of_row wr _ 2 _ _ _ hres
   have m3:wr.cell? ⟨w.heap.size,3,none⟩=some r3:=cell_of_row wr _ 3 _ _ _ hres
   have m4:wr.cell? ⟨w.heap.size,4,none⟩=some r4:=cell_of_row wr _ 4 _ _ _ hres
   have f0:=fun j=>frozen_of_row wr _ j _ _ hst
   have f1:=fun j=>frozen_of_row wr _ j _ _ hres
   have HH:=hid hst
   have HRS:=hid hres
   clear hst hres
   by_cases hc1:b2≤next
   · have hTs:=leh_T HI.out
     have hb21:1≤b2:=HI.out.2.2.2.1
     have hbb:b1+b2<18446744073709551616:=by
       have g1:=Nat.le_mul_of_pos_right b2 (show 0<top by omega)
       have g2:=Nat.le_mul_of_pos_right b1 (show 0<next by omega)
       omega
     by_cases hc2:b1+b2+next≤top
     · have hn1:0<next:=by omega
       have hnew:=leh_step HI.out hn1
       have hT2:=leh_T hnew
       have hord:=hnew.2.1
       obtain ⟨q,hq⟩:=eX (top / next)
       obtain ⟨r,hr⟩:=eX (top%next)
       rw [←hq,←hr] at hnew hT2
       rw [←hq] at hord
       have hqi:((top:Nat):Int) / ((next:Nat):Int)=((q:Nat):Int):=by rw [hq];exact (Int.natCast_ediv _ _).symm
       have hri:((top:Nat):Int)%((next:Nat):Int)=((r:Nat):Int):=by rw [hr];exact (Int.natCast_emod _ _).symm
       have hq64:q<18446744073709551616:=by rw [hq];exact Nat.lt_of_le_of_lt (Nat.div_le_self _ _) htop
       have hrn:r<next:=by rw [hr];exact Nat.mod_lt _ hn1
       obtain ⟨p,hp⟩:=eX (q*a2)
       obtain ⟨pb,hpb⟩:=eX (q*b2)
       have hpi:((q:Nat):Int)*((a2:Nat):Int)=((p:Nat):Int):=by rw [hp];exact (Int.natCast_mul _ _).symm
       have hpbi:((q:Nat):Int)*((b2:Nat):Int)=((pb:Nat):Int):=by rw [hpb];exact (Int.natCast_mul _ _).symm
       rw [←hp,←hpb] at hnew hord
       rw [←hpb] at hT2
       have hbn:b1+pb<18446744073709551616:=by
         have g1:=Nat.le_mul_of_pos_right (b1+pb) hn1
         omega
       have han:a1+p<18446744073709551616:=by omega
       have HNW:=hid hnew
       have hne0:((next:Nat):Int)≠0:=by omega
       have hc2i:((b1:Nat):Int)+((b2:Nat):Int)≤((top:Nat):Int) - ((next:Nat):Int):=by omega
       clear hTs hnew hT2 hq hr hp hpb
       have hp64:p<18446744073709551616:=by omega
       have hpb64:pb<18446744073709551616:=by omega
       go_wp2_with fail
       go_quiet (fail)
       go_wp2_with fail
       go_roundw
       case rel =>
         have hok:b1=0∨StepOk a b a1 a2 b1 b2 (!ev):=by
           rcases Nat.eq_zero_or_pos b1 with h0 | h0
           · exact .inl h0
           · exact .inr (leh_ok (K:=(W^(len a - 2)*2^(64 - s))) (la:=a%(W^(len a - 2)*2^(64 - s))) (lb:=b%(W^(len a - 2)*2^(64 - s))) HI.out (by rw [HT.out,Nat.mul_comm];exact (Nat.div_add_mod _ _).symm) (by rw [HN.out,Nat.mul_comm];exact (Nat.div_add_mod _ _).symm) (Nat.le_of_lt (Nat.mod_lt _ (Nat.mul_pos (Wn_pos _) (Nat.two_pow_pos _)))) (Nat.le_of_lt (Nat.mod_lt _ (Nat.mul_pos (Wn_pos _) (Nat.two_pow_pos _)))) hc1 hc2 h0)
         exact ⟨next,r,a1+p,b1+pb,rfl,by rw [hri],by go_num,by go_num,by omega,by omega,han,hbn,steps_next hbw HRS.out HH.out ha1' ha2 hb1' hb2 HNW.out hok⟩
       case measure=>simp only [intOf];rw [hri];simpa using hrn
     · have hc2i:¬ ((b1:Nat):Int)+((b2:Nat):Int)≤((top:Nat):Int) - ((next:Nat):Int):=by omega
       clear hTs
       go_wp2_with fail
       refine bodyPost_ret (v:=.agg #[.int .u64 (a0:Nat),.int .u64 (a1:Nat),.int .u64 (b0:Nat),.int .u64 (b1:Nat),.bool ev]) ?_ rfl ?_
       · simp [results,Tryz.results129,go_sem, *]
       · exact ⟨a0,a1,b0,b1,ev,rfl,ha0',ha1',hb0',hb1',HO.out,((((hbw.setCell (Nat.le_refl _) _).setCell (Nat.le_refl _) _).setCell (Nat.le_refl _) _).setCell (Nat.le_refl _) _).setCell (Nat.le_refl _) _⟩
   · go_wp2_with fail
     refine bodyPost_ret (v:=.agg #[.int .u64 (a0:Nat),.int .u64 (a1:Nat),.int .u64 (b0:Nat),.int .u64 (b1:Nat),.bool ev]) ?_ rfl ?_
     · simp [results,Tryz.results129,go_sem, *]
     · exact ⟨a0,a1,b0,b1,ev,rfl,ha0',ha1',hb0',hb1',HO.out,((((hbw.setCell (Nat.le_refl _) _).setCell (Nat.le_refl _) _).setCell (Nat.le_refl _) _).setCell (Nat.le_refl _) _).setCell (Nat.le_refl _) _⟩
end Go.Proofs.YtlcimajjnfbidaaGreatDoor
namespace Go.Proofs.YtlcimajjnfbidaaGreatDoor
open Lib (hid)
open Go.RowKit
open Vx
theorem shr_cast (y s:Nat):((y:Nat):Int) / 2^(64 - s)=((y / 2^(64 - s):Nat):Int):=by rw [cast_two,←Int.natCast_ediv]
theorem tops_n {b s n:Nat} (hl:len b+1=n):word b (n - 2) / 2^(64 - s)=b / (W^(n - 2)*2^(64 - s)):=by
 rw [←Nat.div_div_eq_div_mul]
 congr 1
 unfold word
 apply Nat.mod_eq_of_lt
 rw [Nat.div_lt_iff_lt_mul (Wn_pos _),←Nat.pow_succ']
 exact Nat.lt_of_lt_of_le (lt_len b) (Nat.pow_le_pow_right W_pos (by omega))
theorem stepsOf_next {w:World} {a b:Nat} {va vb:Value} (ha:Nt w va a) (hb:Nt w vb b) (hs:len a≤1099511627776) (hba:b≤a) (hl2:2≤len b) (hl:len b+1=len a) :
   Calls Tryz.prog 129 #[va,vb] w (StepsRet w a b):=by
 obtain ⟨A,ca,ea,hca,hca2,_,hp⟩:=id ha
 obtain ⟨A',cb,eb,hcb,hcb2,_,hp'⟩:=id hb
 obtain ⟨g,o,rfl,hg,hcell⟩:=hp (len_pos.1 (by omega))
 obtain ⟨g',o',rfl,hg',hcell'⟩:=hp' (len_pos.1 (by omega))
 subst ea
 subst eb
 have c1:=hcell (len a - 1) (by omega)
 have c2:=hcell (len a - 2) (by omega)
 have d2:=hcell' (len a - 2) (by omega)
 have hlz:=lz64_any (word a (len a - 1)) (word_lt _ _)
 obtain ⟨s,hsd⟩:=eX (64 - bitlen (word a (len a - 1)))
 rw [←hsd] at hlz
 have hs63:s≤63:=(norm (len_pos.1 (by omega)) hsd).1
 have hs64:(s:Int)≤63:=by omega
 have HL:=hid hl
 have e1:(((len b:Nat):Int)==((len a:Nat):Int))=false:=by rw [beq_eq_false_iff_ne];omega
 have e3:(((len b:Nat):Int)==((len a:Nat):Int) - 1)=true:=by rw [beq_iff_eq];omega
 have HS:=hid hsd
 clear hl hsd hcell hcell' hp hp'
 have hl1:2≤len a:=by have:=HL.out;omega
 go_enter Tryz.func129,Tryz.ntmps129
 go_wp2_with fail
 refine (hlz _).mono ?_
 rintro e w' ⟨rfl,rfl⟩
 have hx1:=word_lt a (len a - 1)
 have hx2:=word_lt a (len a - 2)
 have hy2:=word_lt b (len a - 2)
 have i1:(2:Int)≤((len a:Nat):Int):=by omega
 have TA:=hid (tops_a (a:=a) hl1 HS.out)
 have TB:=hid (tops_n (b:=b) (s:=s) (n:=len a) HL.out)
 generalize word a (len a - 1)=x1 at *
 generalize word a (len a - 2)=x2 at *
 generalize word b (len a - 2)=y2 at *
 have T1:=hid (top_word (h:=x1) (l:=x2) hs63 TA.out.1 hx2)
 have T2:=hid (shr_cast y2 s)
 have hlbi:((len a:Nat):Int) - 2<((len b:Nat):Int):=by have:=HL.out;omega
 go_wp2_with fail
 go_quiet (fail)
 rw [T1.out]
 generalize hT:(x1*W+x2) / 2^(64 - s)=T at *
 go_wp2_with fail
 rw [T2.out]
 generalize hN:y2 / 2^(64 - s)=N at *
 have hTa:T=a / (W^(len a - 2)*2^(64 - s)):=TA.out.2
 have hNb:N=b / (W^(len a - 2)*2^(64 - s)):=TB.out
 have HT:=hid hTa;have HN:=hid hNb
 have hNT:N≤T:=by rw [hTa,hNb];exact Nat.div_le_div_right hba
 have hTW:T<18446744073709551616:=by
   rw [←hT,Nat.div_lt_iff_lt_mul (Nat.two_pow_pos _)]
   have h1:=TA.out.1
   have h3:W=2^s*2^(64 - s):=two_W (by omega)
   have h4:x1+1≤2^(64 - s):=by
     apply Nat.lt_of_mul_lt_mul_right (a:=2^s)
     rw [Nat.mul_comm (2^(64 - s)),←h3];exact h1
   have h5:=Nat.mul_le_mul_left W h4
   rw [Nat.mul_add,Nat.mul_one,Nat.mul_comm W x1] at h5
   have h6:W*2^(64 - s)=18446744073709551616*2^(64 - s):=rfl
   omega
 clear hT hN hTa hNb TA TB T1 T2 c1 c2 d2 hx1 hx2 hy2
 go_loopw [7,8,10,11] (fun tv nv av bv wr=>∃ top next a2 b2:Nat,tv=.int .u64 top∧nv=.int .u64 next∧av=.int .u64 a2∧bv=.int .u64 b2∧top<18446744073709551616∧next≤top∧a2<18446744073709551616∧b2<18446744073709551616∧StepsRel w (w.heap.size+1) a b T N top next a2 b2 wr) (fun _ nv _ _ _=>(intOf nv).toNat)
 case atStart=>exact ⟨T,N,0,1,rfl,rfl,rfl,rfl,hTW,hNT,by omega,by omega,steps_start _ _ _ _ _ _ hNT⟩
 case round =>
   obtain ⟨top,next,a2,b2,rfl,rfl,rfl,rfl,htop,hnt,ha2,hb2,a0,a1,b0,b1,ev,hbw,ha0',ha1',hb0',hb1',⟨r0,r1,r2,r3,r4,hres⟩,hst,HI,HO⟩:=hrel
   rw [Nat.add_sub_cancel] at hres
   have k0:wr.cell? ⟨w.heap.size+1,0,none⟩=some (.int .u64 (a0:Nat)):=cell_of_row wr _ 0 _ _ _ hst
   have k1:wr.cell? ⟨w.heap.size+1,1,none⟩=some (.int .u64 (a1:Nat)):=cell_of_row wr _ 1 _ _ _ hst
   have k2:wr.cell? ⟨w.heap.size+1,2,none⟩=some (.int .u64 (b0:Nat)):=cell_of_row wr _ 2 _ _ _ hst
   have k3:wr.cell? ⟨w.heap.size+1,3,none⟩=some (.int .u64 (b1:Nat)):=cell_of_row wr _ 3 _ _ _ hst
   have k4:wr.cell? ⟨w.heap.size+1,4,none⟩=some (.bool ev):=cell_of_row wr _ 4 _ _ _ hst
   have m0:wr.cell? ⟨w.heap.size,0,none⟩=some r0:=cell_of_row wr _ 0 _ _ _ hres
   have m1:wr.cell? ⟨w.heap.size,1,none⟩=some r1:=cell_of_row wr _ 1 _ _ _ hres
   have m2:wr.cell? ⟨w.heap.size,2,none⟩=some r2:=cell_of_row wr _ 2 _ _ _ hres
   have m3:wr.cell? ⟨w.heap.size,3,none⟩=some r3:=cell_of_row wr _ 3 _ _ _ hres
   have m4:wr.cell? ⟨w.heap.size,4,none⟩=some r4:=cell_of_row wr _ 4 _ _ _ hres
   have f0:=fun j=>frozen_of_row wr _ j _ _ hst
   have f1:=fun j=>frozen_of_row wr _ j _ _ hres
   have HH:=hid hst
   have HRS:=hid hres
   clear hst hres
   by_cases hc1:b2≤next
   · have hTs:=leh_T HI.out
     have hb21:1≤b2:=HI.out.2.2.2.1
     have hbb:b1+b2<18446744073709551616:=by
       have g1:=Nat.le_mul_of_pos_right b2 (show 0<top by omega)
       have g2:=Nat.le_mul_of_pos_right b1 (show 0<next by omega)
       omega
     by_cases hc2:b1+b2+next≤top
     · have hn1:0<next:=by omega
       have hnew:=leh_step HI.out hn1
       have hT2:=leh_T hnew
       have hord:=hnew.2.1
       obtain ⟨q,hq⟩:=eX (top / next)
       obtain ⟨r,hr⟩:=eX (top%next)
       rw [←hq,←hr] at hnew hT2
       rw [←hq] at hord
       have hqi:((top:Nat):Int) / ((next:Nat):Int)=((q:Nat):Int):=by rw [hq];exact (Int.natCast_ediv _ _).symm
       have hri:((top:Nat):Int)%((next:Nat):Int)=((r:Nat):Int):=by rw [hr];exact (Int.natCast_emod _ _).symm
       have hq64:q<18446744073709551616:=by rw [hq];exact Nat.lt_of_le_of_lt (Nat.div_le_self _ _) htop
       have hrn:r<next:=by rw [hr];exact Nat.mod_lt _ hn1
       obtain ⟨p,hp⟩:=eX (q*a2)
       obtain ⟨pb,hpb⟩:=eX (q*b2)
       have hpi:((q:Nat):Int)*((a2:Nat):Int)=((p:Nat):Int):=by rw [hp];exact (Int.natCast_mul _ _).symm
       have hpbi:((q:Nat):Int)*((b2:Nat):Int)=((pb:Nat):Int):=by rw [hpb];exact (Int.natCast_mul _ _).symm
       rw [←hp,←hpb] at hnew hord
       rw [←hpb] at hT2
       have hbn:b1+pb<18446744073709551616:=by
         have g1:=Nat.le_mul_of_pos_right (b1+pb) hn1
         omega
       have han:a1+p<18446744073709551616:=by omega
       have HNW:=hid hnew
       have hne0:((next:Nat):Int)≠0:=by omega
       have hc2i:((b1:Nat):Int)+((b2:Nat):Int)≤((top:Nat):Int) - ((next:Nat):Int):=by omega
       clear hTs hnew hT2 hq hr hp hpb
       have hp64:p<18446744073709551616:=by omega
       have hpb64:pb<18446744073709551616:=by omega
       go_wp2_with fail
       go_quiet (fail)
       go_wp2_with fail
       go_roundw
       case rel =>
         have hok:b1=0∨StepOk a b a1 a2 b1 b2 (!ev):=by
           rcases Nat.eq_zero_or_pos b1 with h0 | h0
           · exact .inl h0
           · exact .inr (leh_ok (K:=(W^(len a - 2)*2^(64 - s))) (la:=a%(W^(len a - 2)*2^(64 - s))) (lb:=b%(W^(len a - 2)*2^(64 - s))) HI.out (by rw [HT.out,Nat.mul_comm];exact (Nat.div_add_mod _ _).symm) (by rw [HN.out,Nat.mul_comm];exact (Nat.div_add_mod _ _).symm) (Nat.le_of_lt (Nat.mod_lt _ (Nat.mul_pos (Wn_pos _) (Nat.two_pow_pos _)))) (Nat.le_of_lt (Nat.mod_lt _ (Nat.mul_pos (Wn_pos _) (Nat.two_pow_pos _)))) hc1 hc2 h0)
         exact ⟨next,r,a1+p,b1+pb,rfl,by rw [hri],by go_num,by go_num,by omega,by omega,han,hbn,steps_next hbw HRS.out HH.out ha1' ha2 hb1' hb2 HNW.out hok⟩
       case measure=>simp only [intOf];rw [hri];simpa using hrn
     · have hc2i:¬ ((b1:Nat):Int)+((b2:Nat):Int)≤((top:Nat):Int) - ((next:Nat):Int):=by omega
       clear hTs
       go_wp2_with fail
       refine bodyPost_ret (v:=.agg #[.int .u64 (a0:Nat),.int .u64 (a1:Nat),.int .u64 (b0:Nat),.int .u64 (b1:Nat),.bool ev]) ?_ rfl ?_
       · simp [results,Tryz.results129,go_sem, *]
       · exact ⟨a0,a1,b0,b1,ev,rfl,ha0',ha1',hb0',hb1',HO.out,((((hbw.setCell (Nat.le_refl _) _).setCell (Nat.le_refl _) _).setCell (Nat.le_refl _) _).setCell (Nat.le_refl _) _).setCell (Nat.le_refl _) _⟩
   · go_wp2_with fail
     refine bodyPost_ret (v:=.agg #[.int .u64 (a0:Nat),.int .u64 (a1:Nat),.int .u64 (b0:Nat),.int .u64 (b1:Nat),.bool ev]) ?_ rfl ?_
     · simp [results,Tryz.results129,go_sem, *]
     · exact ⟨a0,a1,b0,b1,ev,rfl,ha0',ha1',hb0',hb1',HO.out,((((hbw.setCell (Nat.le_refl _) _).setCell (Nat.le_refl _) _).setCell (Nat.le_refl _) _).setCell (Nat.le_refl _) _).setCell (Nat.le_refl _) _⟩
end Go.Proofs.YtlcimajjnfbidaaGreatDoor
namespace Go.Proofs.YtlcimajjnfbidaaGreatDoor
open Lib (hid)
open Go.RowKit
open Vx
theorem tops_f {b s n:Nat} (hl:len b+1<n):0=b / (W^(n - 2)*2^(64 - s)):=by
 symm
 apply Nat.div_eq_of_lt
 refine Nat.lt_of_lt_of_le (lt_len b) (Nat.le_trans (Nat.pow_le_pow_right W_pos (show len b≤n - 2 by omega)) (Nat.le_mul_of_pos_right _ (Nat.two_pow_pos _)))
theorem stepsOf_far {w:World} {a b:Nat} {va vb:Value} (ha:Nt w va a) (hb:Nt w vb b) (hs:len a≤1099511627776) (hba:b≤a) (hl2:2≤len b) (hl:len b+1<len a) :
   Calls Tryz.prog 129 #[va,vb] w (StepsRet w a b):=by
 obtain ⟨A,ca,ea,hca,hca2,_,hp⟩:=id ha
 obtain ⟨A',cb,eb,hcb,hcb2,_,hp'⟩:=id hb
 obtain ⟨g,o,rfl,hg,hcell⟩:=hp (len_pos.1 (by omega))
 obtain ⟨g',o',rfl,hg',hcell'⟩:=hp' (len_pos.1 (by omega))
 subst ea
 subst eb
 have c1:=hcell (len a - 1) (by omega)
 have c2:=hcell (len a - 2) (by omega)
 have hlz:=lz64_any (word a (len a - 1)) (word_lt _ _)
 obtain ⟨s,hsd⟩:=eX (64 - bitlen (word a (len a - 1)))
 rw [←hsd] at hlz
 have hs63:s≤63:=(norm (len_pos.1 (by omega)) hsd).1
 have hs64:(s:Int)≤63:=by omega
 have HL:=hid hl
 have e1:(((len b:Nat):Int)==((len a:Nat):Int))=false:=by rw [beq_eq_false_iff_ne];omega
 have e3:(((len b:Nat):Int)==((len a:Nat):Int) - 1)=false:=by rw [beq_eq_false_iff_ne];omega
 have HS:=hid hsd
 clear hl hsd hcell hcell' hp hp'
 have hl1:2≤len a:=by have:=HL.out;omega
 go_enter Tryz.func129,Tryz.ntmps129
 go_wp2_with fail
 refine (hlz _).mono ?_
 rintro e w' ⟨rfl,rfl⟩
 have hx1:=word_lt a (len a - 1)
 have hx2:=word_lt a (len a - 2)
 have i1:(2:Int)≤((len a:Nat):Int):=by omega
 have TA:=hid (tops_a (a:=a) hl1 HS.out)
 have TB:=hid (tops_f (b:=b) (s:=s) (n:=len a) HL.out)
 generalize word a (len a - 1)=x1 at *
 generalize word a (len a - 2)=x2 at *
 have T1:=hid (top_word (h:=x1) (l:=x2) hs63 TA.out.1 hx2)
 go_wp2_with fail
 go_quiet (fail)
 rw [T1.out]
 generalize hT:(x1*W+x2) / 2^(64 - s)=T at *
 go_wp2_with fail
 obtain ⟨N,hN⟩:=eX (0:Nat)
 have hTa:T=a / (W^(len a - 2)*2^(64 - s)):=TA.out.2
 have hNb:N=b / (W^(len a - 2)*2^(64 - s)):=by rw [hN];exact TB.out
 have HT:=hid hTa;have HN:=hid hNb
 have hNT:N≤T:=by rw [hTa,hNb];exact Nat.div_le_div_right hba
 have hTW:T<18446744073709551616:=by
   rw [←hT,Nat.div_lt_iff_lt_mul (Nat.two_pow_pos _)]
   have h1:=TA.out.1
   have h3:W=2^s*2^(64 - s):=two_W (by omega)
   have h4:x1+1≤2^(64 - s):=by
     apply Nat.lt_of_mul_lt_mul_right (a:=2^s)
     rw [Nat.mul_comm (2^(64 - s)),←h3];exact h1
   have h5:=Nat.mul_le_mul_left W h4
   rw [Nat.mul_add,Nat.mul_one,Nat.mul_comm W x1] at h5
   have h6:W*2^(64 - s)=18446744073709551616*2^(64 - s):=rfl
   omega
 have HN0:=hid hN
 clear hT hN hTa hNb TA TB T1 c1 c2 hx1 hx2
 go_loopw [7,8,10,11] (fun tv nv av bv wr=>∃ top next a2 b2:Nat,tv=.int .u64 top∧nv=.int .u64 next∧av=.int .u64 a2∧bv=.int .u64 b2∧top<18446744073709551616∧next≤top∧a2<18446744073709551616∧b2<18446744073709551616∧StepsRel w (w.heap.size+1) a b T N top next a2 b2 wr) (fun _ nv _ _ _=>(intOf nv).toNat)
 case atStart=>exact ⟨T,N,0,1,rfl,by rw [HN0.out];rfl,rfl,rfl,hTW,hNT,by omega,by omega,steps_start _ _ _ _ _ _ hNT⟩
 case round =>
   obtain ⟨top,next,a2,b2,rfl,rfl,rfl,rfl,htop,hnt,ha2,hb2,a0,a1,b0,b1,ev,hbw,ha0',ha1',hb0',hb1',⟨r0,r1,r2,r3,r4,hres⟩,hst,HI,HO⟩:=hrel
   rw [Nat.add_sub_cancel] at hres
   have k0:wr.cell? ⟨w.heap.size+1,0,none⟩=some (.int .u64 (a0:Nat)):=cell_of_row wr _ 0 _ _ _ hst
   have k1:wr.cell? ⟨w.heap.size+1,1,none⟩=some (.int .u64 (a1:Nat)):=cell_of_row wr _ 1 _ _ _ hst
   have k2:wr.cell? ⟨w.heap.size+1,2,none⟩=some (.int .u64 (b0:Nat)):=cell_of_row wr _ 2 _ _ _ hst
   have k3:wr.cell? ⟨w.heap.size+1,3,none⟩=some (.int .u64 (b1:Nat)):=cell_of_row wr _ 3 _ _ _ hst
   have k4:wr.cell? ⟨w.heap.size+1,4,none⟩=some (.bool ev):=cell_of_row wr _ 4 _ _ _ hst
   have m0:wr.cell? ⟨w.heap.size,0,none⟩=some r0:=cell_of_row wr _ 0 _ _ _ hres
   have m1:wr.cell? ⟨w.heap.size,1,none⟩=some r1:=cell_of_row wr _ 1 _ _ _ hres
   have m2:wr.cell? ⟨w.heap.size,2,none⟩=some r2:=cell_of_row wr _ 2 _ _ _ hres
   have m3:wr.cell? ⟨w.heap.size,3,none⟩=some r3:=cell_of_row wr _ 3 _ _ _ hres
   have m4:wr.cell? ⟨w.heap.size,4,none⟩=some r4:=cell_of_row wr _ 4 _ _ _ hres
   have f0:=fun j=>frozen_of_row wr _ j _ _ hst
   have f1:=fun j=>frozen_of_row wr _ j _ _ hres
   have HH:=hid hst
   have HRS:=hid hres
   clear hst hres
   by_cases hc1:b2≤next
   · have hTs:=leh_T HI.out
     have hb21:1≤b2:=HI.out.2.2.2.1
     have hbb:b1+b2<18446744073709551616:=by
       have g1:=Nat.le_mul_of_pos_right b2 (show 0<top by omega)
       have g2:=Nat.le_mul_of_pos_right b1 (show 0<next by omega)
       omega
     by_cases hc2:b1+b2+next≤top
     · have hn1:0<next:=by omega
       have hnew:=leh_step HI.out hn1
       have hT2:=leh_T hnew
       have hord:=hnew.2.1
       obtain ⟨q,hq⟩:=eX (top / next)
       obtain ⟨r,hr⟩:=eX (top%next)
       rw [←hq,←hr] at hnew hT2
       rw [←hq] at hord
       have hqi:((top:Nat):Int) / ((next:Nat):Int)=((q:Nat):Int):=by rw [hq];exact (Int.natCast_ediv _ _).symm
       have hri:((top:Nat):Int)%((next:Nat):Int)=((r:Nat):Int):=by rw [hr];exact (Int.natCast_emod _ _).symm
       have hq64:q<18446744073709551616:=by rw [hq];exact Nat.lt_of_le_of_lt (Nat.div_le_self _ _) htop
       have hrn:r<next:=by rw [hr];exact Nat.mod_lt _ hn1
       obtain ⟨p,hp⟩:=eX (q*a2)
       obtain ⟨pb,hpb⟩:=eX (q*b2)
       have hpi:((q:Nat):Int)*((a2:Nat):Int)=((p:Nat):Int):=by rw [hp];exact (Int.natCast_mul _ _).symm
       have hpbi:((q:Nat):Int)*((b2:Nat):Int)=((pb:Nat):Int):=by rw [hpb];exact (Int.natCast_mul _ _).symm
       rw [←hp,←hpb] at hnew hord
       rw [←hpb] at hT2
       have hbn:b1+pb<18446744073709551616:=by
         have g1:=Nat.le_mul_of_pos_right (b1+pb) hn1
         omega
       have han:a1+p<18446744073709551616:=by omega
       have HNW:=hid hnew
       have hne0:((next:Nat):Int)≠0:=by omega
       have hc2i:((b1:Nat):Int)+((b2:Nat):Int)≤((top:Nat):Int) - ((next:Nat):Int):=by omega
       clear hTs hnew hT2 hq hr hp hpb
       have hp64:p<18446744073709551616:=by omega
       have hpb64:pb<18446744073709551616:=by omega
       go_wp2_with fail
       go_quiet (fail)
       go_wp2_with fail
       go_roundw
       case rel =>
         have hok:b1=0∨StepOk a b a1 a2 b1 b2 (!ev):=by
           rcases Nat.eq_zero_or_pos b1 with h0 | h0
           · exact .inl h0
           · exact .inr (leh_ok (K:=(W^(len a - 2)*2^(64 - s))) (la:=a%(W^(len a - 2)*2^(64 - s))) (lb:=b%(W^(len a - 2)*2^(64 - s))) HI.out (by rw [HT.out,Nat.mul_comm];exact (Nat.div_add_mod _ _).symm) (by rw [HN.out,Nat.mul_comm];exact (Nat.div_add_mod _ _).symm) (Nat.le_of_lt (Nat.mod_lt _ (Nat.mul_pos (Wn_pos _) (Nat.two_pow_pos _)))) (Nat.le_of_lt (Nat.mod_lt _ (Nat.mul_pos (Wn_pos _) (Nat.two_pow_pos _)))) hc1 hc2 h0)
         exact ⟨next,r,a1+p,b1+pb,rfl,by rw [hri],by go_num,by go_num,by omega,by omega,han,hbn,steps_next hbw HRS.out HH.out ha1' ha2 hb1' hb2 HNW.out hok⟩
       case measure=>simp only [intOf];rw [hri];simpa using hrn
     · have hc2i:¬ ((b1:Nat):Int)+((b2:Nat):Int)≤((top:Nat):Int) - ((next:Nat):Int):=by omega
       clear hTs
       go_wp2_with fail
       refine bodyPost_ret (v:=.agg #[.int .u64 (a0:Nat),.int .u64 (a1:Nat),.int .u64 (b0:Nat),.int .u64 (b1:Nat),.bool ev]) ?_ rfl ?_
       · simp [results,Tryz.results129,go_sem, *]
       · exact ⟨a0,a1,b0,b1,ev,rfl,ha0',ha1',hb0',hb1',HO.out,((((hbw.setCell (Nat.le_refl _) _).setCell (Nat.le_refl _) _).setCell (Nat.le_refl _) _).setCell (Nat.le_refl _) _).setCell (Nat.le_refl _) _⟩
   · go_wp2_with fail
     refine bodyPost_ret (v:=.agg #[.int .u64 (a0:Nat),.int .u64 (a1:Nat),.int .u64 (b0:Nat),.int .u64 (b1:Nat),.bool ev]) ?_ rfl ?_
     · simp [results,Tryz.results129,go_sem, *]
     · exact ⟨a0,a1,b0,b1,ev,rfl,ha0',ha1',hb0',hb1',HO.out,((((hbw.setCell (Nat.le_refl _) _).setCell (Nat.le_refl _) _).setCell (Nat.le_refl _) _).setCell (Nat.le_refl _) _).setCell (Nat.le_refl _) _⟩
theorem stepsOf_any {w:World} {a b:Nat} {va vb:Value} (ha:Nt w va a) (hb:Nt w vb b) (hs:len a≤1099511627776) (hba:b≤a) (hl2:2≤len b) :
   Calls Tryz.prog 129 #[va,vb] w (StepsRet w a b):=by
 have:=len_mono hba
 rcases Nat.lt_trichotomy (len b+1) (len a) with h | h | h
 · exact stepsOf_far ha hb hs hba hl2 h
 · exact stepsOf_next ha hb hs hba hl2 h
 · exact stepsOf_same ha hb hs hba hl2 (by omega)
end Go.Proofs.YtlcimajjnfbidaaGreatDoor
