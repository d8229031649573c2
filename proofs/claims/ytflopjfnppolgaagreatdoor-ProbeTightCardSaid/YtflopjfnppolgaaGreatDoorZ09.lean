/-
  Contracts of the functions that the law calls, for every input (Num1 Pow Diff Lehmer Steps Steps2 Steps3).
-/
import Derived.Test.YtflopjfnppolgaaGreatDoorZ00
import Derived.Test.YtflopjfnppolgaaGreatDoorZ08
import Derived.Deep.LoopGhost
set_option linter.all false
set_option maxRecDepth 100000
set_option maxHeartbeats 40000000
namespace Go.Proofs.YtflopjfnppolgaaGreatDoor
open Lib (hid)
open Go.RowKit
open Vx
theorem AN {w:World} {a b:Nat} {va vb:Value} (ha:Nt w va a) (hb:Nt w vb b) (hs:len a≤1099511627776) (hb0:0<b) :
   Calls Tryz.prog 63 #[va,vb] w (AI w (a / b)):=by
 have h1:=Bd' hb
 have hd:=Ea' ha hb hs hb0
 by_cases hb1:b=1
 · rw [dT_ hb1] at h1
   go_enter Tryz.func63,Tryz.ntmps63
   go_wp2_with fail
   refine h1.mono ?_
   rintro e w1 ⟨rfl,rfl⟩
   go_wp2_with fail
   go_ret
   exact ⟨_,rfl,by rw [hb1,Nat.div_one];exact ha,Below.refl _ _⟩
 · rw [dF_ hb1] at h1
   clear hb1
   go_enter Tryz.func63,Tryz.ntmps63
   go_wp2_with fail
   refine h1.mono ?_
   rintro e w1 ⟨rfl,rfl⟩
   go_wp2_with fail
   refine hd.mono ?_
   rintro e w1 ⟨v,u,rfl,hv,hu,hb⟩
   go_wp2_with fail
   go_ret
   exact ⟨_,rfl,hv,hb⟩
theorem Db' {w:World} {a b:Nat} (ha:a<W) (hb:b<W):Calls Tryz.prog 102 #[.int .u64 (a:Nat),.int .u64 (b:Nat)] w (Co' w (.int .u64 (Nat.gcd a b:Nat))):=by
 go_enter Tryz.func102,Tryz.ntmps102
 go_wp2_with fail
 go_loopw [0,1] (fun av bv wr=>∃ x y m:Nat,av=.int .u64 x∧bv=.int .u64 y∧x<18446744073709551616∧y<18446744073709551616∧wr=w.drewN m∧Hid (Nat.gcd x y=Nat.gcd a b)) (fun _ bv _=>(intOf bv).toNat)
 case atStart=>exact ⟨a,b,0,rfl,rfl,ha,hb,rfl,rfl⟩
 case round =>
   obtain ⟨x,y,m,rfl,rfl,hx,hy,rfl,hg⟩:=hrel
   by_cases h0:y=0
   · subst h0
     go_wp2_with fail
     go_ret
     exact ⟨congrArg (fun z:Nat=>Ending.returned (.int .u64 (z:Int))) (by rw [←hg.out,Nat.gcd_zero_right]),m,rfl⟩
   · have ht:(((y:Nat):Int) != 0)=true:=by rw [bne_iff_ne];omega
     have hm:((x:Nat):Int)%((y:Nat):Int)=((x%y:Nat):Int):=by omega
     have hml:=Nat.mod_lt x (Nat.pos_of_ne_zero h0)
     have hy1:1≤y:=Nat.pos_of_ne_zero h0
     have HM:=hid hm
     clear hm
     go_wp2_with fail
     go_quiet (fail)
     go_wp2_with fail
     go_roundw
     case rel =>
       refine ⟨y,x%y,m+nq,rfl,by rw [HM.out],hy,by omega,by rw [World.drewN_drewN],?_⟩
       show _=_
       rw [←hg.out,Nat.gcd_comm x y,Nat.gcd_rec y x,Nat.gcd_comm]
     case measure=>simp [intOf];omega
theorem E0' {x:Nat} (h:0<x):bitlen x=(len x - 1)*64+bitlen (word x (len x - 1)):=by
 obtain ⟨e1,e2⟩:=BW' h
 have hl:len x=x.log2 / 64+1:=by unfold len;rw [if_neg (by omega)]
 have hq:len x - 1=x.log2 / 64:=by omega
 have hlog:(word x (len x - 1)).log2=x.log2 - 64*(x.log2 / 64):=by
   rw [e1,hq,Nat.log2_eq_iff (by rw [←hq,←e1];omega)]
   have h1:=Nat.log2_self_le (n:=x) (by omega)
   have h2:=Nat.lt_log2_self (n:=x)
   generalize x.log2=L at *
   constructor
   · rw [Nat.le_div_iff_mul_le (AH' _),AT',←Nat.pow_mul,←Nat.pow_add,show L - 64*(L / 64)+64*(L / 64)=L by omega]
     exact h1
   · rw [Nat.div_lt_iff_lt_mul (AH' _),AT',←Nat.pow_mul,←Nat.pow_add,show L - 64*(L / 64)+1+64*(L / 64)=L+1 by omega]
     exact h2
 unfold bitlen
 rw [if_neg (by omega),if_neg (by omega),hlog,hq]
 omega
theorem Es (x:Nat):bitlen x≤64*len x:=by
 unfold bitlen len
 split <;> omega
theorem AH {w:World} {a:Nat} {va:Value} (ha:Nt w va a) (hs:len a≤4398046511104):Calls Tryz.prog 93 #[va] w (Bs w (.int .i64 (bitlen a:Nat))):=by
 rcases Nat.eq_zero_or_pos a with h0 | h0
 · subst h0
   rw [As'.zero' ha]
   go_enter Tryz.func93,Tryz.ntmps93
   go_wp2_with fail
   go_ret
   exact ⟨rfl,rfl⟩
 · obtain ⟨A,c,rfl,hc1,hc2,hz,hp⟩:=id ha
   obtain ⟨g,o,rfl,hg,hcell⟩:=hp h0
   have hl:=Ak.2 h0
   have ht:(((len a:Nat):Int)==0)=false:=by rw [beq_eq_false_iff_ne];omega
   have hct:=hcell (len a - 1) (by omega)
   have hln:=Da (word a (len a - 1)) (word_lt _ _)
   have hb:=E0' h0
   have hbl:bitlen (word a (len a - 1))≤64:=by
     have:=Es (word a (len a - 1))
     have h2:=AA (x:=word a (len a - 1)) (n:=1) (by rw [Nat.pow_one];exact word_lt _ _)
     omega
   have HB:=hid hb
   clear hb hcell hp
   go_enter Tryz.func93,Tryz.ntmps93
   go_wp2_with fail
   refine (hln _).mono ?_
   rintro e w' ⟨rfl,rfl⟩
   go_wp2_with fail
   go_ret
   exact Bh' (by rw [HB.out];omega)
theorem CN (w:World):Nt (w.alloc (.cells #[.int .u64 1] 101)) (.slice (some ⟨w.heap.size,0,none⟩) 1 1) 1:=by
 refine ⟨_,1,by rw [BC],by rw [BC];omega,by omega,fun e=>by omega,fun _=>⟨w.heap.size,0,rfl,by simp,fun j hj=>?_⟩⟩
 rw [BC] at hj
 obtain rfl:j=0:=by omega
 rw [cR _ _ _ _ _ _ (hA_ w _)]
 have:word 1 0=1:=by decide +kernel
 simp [this]
theorem CS (a n:Nat):len (a^n)≤len a*n+1:=by
 induction n with
 | zero=>simp [BC]
 | succ n ih =>
   rw [Nat.pow_succ]
   refine nT (At' _ _) ?_
   rw [Nat.mul_succ]
   omega
theorem Dc (n:Nat):n<2^bitlen n:=by
 unfold bitlen
 split
 · subst n;simp
 · exact Nat.lt_log2_self
theorem Hr (n:Int):bits .and .i64 n 1=n%2:=by
 have h1:(BitVec.ofInt 64 1).toNat=2^1 - 1:=by decide
 have key:(BitVec.ofInt 64 n &&& BitVec.ofInt 64 1).toNat=(n%((2^64:Nat):Int)).toNat%2^1:=by
   rw [BitVec.toNat_and,BitVec.toNat_ofInt,h1,Nat.and_two_pow_sub_one_eq_mod]
 show IntKind.i64.wrap ((BitVec.ofInt 64 n &&& BitVec.ofInt 64 1).toNat:Nat)=n%2
 rw [key,IntKind.wrap_i64]
 omega
theorem Hr' (n p:Nat):(bits .and .i64 (((n:Nat):Int) / 2^p) 1==1)=decide (n / 2^p%2=1):=by
 rw [Hr,show ((2:Int)^p)=((2^p:Nat):Int) by simp,←Int.natCast_ediv]
 generalize n / 2^p=m
 rw [show ((m:Nat):Int)%2=((m%2:Nat):Int) by omega]
 rcases Nat.mod_two_eq_zero_or_one m with h | h <;> rw [h] <;> rfl
theorem Ih' (n p:Nat):n / 2^p=n / 2^(p+1)+n / 2^(p+1)+n / 2^p%2:=by
 rw [Nat.pow_succ,←Nat.div_div_eq_div_mul];omega
theorem FK {w:World} {a n:Nat} {va:Value} (ha:Nt w va a) (hn:n≤1099511627776) (hs:len a*n≤1099511627776) (hs1:len a≤1099511627776) :
   Calls Tryz.prog 75 #[va,.int .i64 (n:Nat)] w (AI w (a^n)):=by
 have hln:=Ho n (by rw [BG'];omega)
 have hbl:bitlen n≤64:=by
   have:=Es n
   have h2:=AA (x:=n) (n:=1) (by rw [Nat.pow_one,BG'];omega)
   omega
 have hone:=CN w
 go_enter Tryz.func75,Tryz.ntmps75
 go_wp2_with fail
 refine (hln _).mono ?_
 rintro e w' ⟨rfl,rfl⟩
 go_wp2_with fail
 go_loopw [5,6] (fun pv i wr=>∃ k:Nat,k≤bitlen n∧i=.int .i64 (downI k)∧Nt wr pv (a^(n / 2^k))∧Below w.heap.size w wr) (fun _ i _=>(intOf i+1).toNat)
 case atStart =>
   refine ⟨bitlen n,nL _,congrArg (Value.int .i64) (AM' _).symm,?_,(Below.refl _ _).alloc (nL _) _⟩
   rw [Nat.div_eq_of_lt (Dc n),Nat.pow_zero]
   exact hone
 case round =>
   obtain ⟨k,hk,rfl,hp,hb⟩:=hrel
   rcases Nat.eq_zero_or_pos k with h0 | h0
   · subst h0
     simp only [downI]
     rw [Nat.pow_zero,Nat.div_one] at hp
     go_wp2_with fail
     go_ret
     exact ⟨_,rfl,hp,hb⟩
   · obtain ⟨p,rfl⟩:∃ p,k=p+1:=⟨k - 1,by omega⟩
     simp only [downI]
     have hlp:len (a^(n / 2^(p+1)))≤1099511627777:=by
       have h1:=CS a (n / 2^(p+1))
       have h2:=mL (len a) (Nat.div_le_self n (2^(p+1)))
       omega
     have hle:len (a^(n / 2^(p+1))*a^(n / 2^(p+1)))≤1099511627777:=by
       rw [←Nat.pow_add]
       have h1:=CS a (n / 2^(p+1)+n / 2^(p+1))
       have h3:=Ih' n p
       have h4:=Nat.div_le_self n (2^p)
       have h2:=mL (len a) (show n / 2^(p+1)+n / 2^(p+1)≤n by omega)
       omega
     have ht:=Hr' n p
     have hav:=ha.keep hb
     have hh:=Ih' n p
     by_cases hodd:n / 2^p%2=1
     · rw [dT_ hodd] at ht
       have HO:=hid hodd;have HH:=hid hh;clear hodd hh
       go_wp2_with fail
       refine (AS hp hp (by omega) (by omega)).mono ?_
       rintro e w1 ⟨v,rfl,hv,b1⟩
       go_wp2_with fail
       refine (AS hv (hav.keep b1) (by omega) (by omega)).mono ?_
       rintro e w2 ⟨v2,rfl,hv2,b2⟩
       go_wp2_with fail
       go_roundw
       case rel =>
         refine ⟨p,by omega,congrArg (Value.int .i64) (AM' p).symm,?_,Ae' (Ae' hb b1) b2⟩
         rw [HH.out,HO.out,Nat.pow_add,Nat.pow_add,Nat.pow_one]
         exact hv2
       case measure=>simp [intOf]
     · rw [dF_ hodd] at ht
       have HO:=hid hodd;have HH:=hid hh;clear hodd hh
       go_wp2_with fail
       refine (AS hp hp (by omega) (by omega)).mono ?_
       rintro e w1 ⟨v,rfl,hv,b1⟩
       go_wp2_with fail
       go_roundw
       case rel =>
         refine ⟨p,by omega,congrArg (Value.int .i64) (AM' p).symm,?_,Ae' hb b1⟩
         have h0:n / 2^p%2=0:=by have:=HO.out;omega
         rw [HH.out,h0,Nat.add_zero,Nat.pow_add]
         exact hv
       case measure=>simp [intOf]
theorem Fr' (n:Nat):len (2^n)≤n / 64+1:=by
 apply AA
 rw [AT',←Nat.pow_mul]
 exact Nat.pow_lt_pow_right (by omega) (by omega)
def Ip' (w:World) (g N T S i miss:Nat) (wr:World):Prop :=
  ∃ cs,Below w.heap.size w wr∧AK' wr g cs∧Hid (cs.length=N)∧Hid (seg cs 0 N+T=S+W^i*miss)
theorem GK' {cs:List Nat} {N S T i miss d:Nat} (hl:cs.length=N) (hi:i<N) (hd:cs.getD i 0=d) (hdW:d<W) (hm:miss<W) (h:seg cs 0 N+T=S+W^i*miss) :
   seg (cs.set i (dlo d miss 0)) 0 N+T=S+W^(i+1)*dhi d miss 0:=by
 have e1:=CK' (cs:=cs) (o:=0) (n:=N) (i:=i) (v:=dlo d miss 0) hi (by omega)
 simp only [Nat.zero_add] at e1
 rw [hd] at e1
 have e2:=EP (b:=0) hdW hm (by omega)
 have e3:=congrArg (W^i * ·) e2
 simp only [Nat.mul_add,←Nat.mul_assoc,Nat.add_zero] at e3
 rw [Nat.pow_succ]
 omega
theorem E1' {N A B D k m:Nat} (h1:D+B+W^N*k=A+W^N*m) (hB:B≤A) (hA:A - B<W^N) (hD:D<W^N):D=A - B:=by
 obtain ⟨v,rfl⟩:∃ v,A=B+v:=⟨A - B,by omega⟩
 rw [Nat.add_sub_cancel_left] at *
 have h2:D+W^N*k=v+W^N*m:=by omega
 rcases Nat.lt_trichotomy k m with h | h | h
 · have:=mL (W^N) (show k+1≤m from h);rw [Nat.mul_add] at this;omega
 · subst h;omega
 · have:=mL (W^N) (show m+1≤k from h);rw [Nat.mul_add] at this;omega
theorem F6' {cs:List Nat} {n N x z c:Nat} (hN:n<N) (hl:cs.length=N) (h0:∀ j,n≤j→cs.getD j 0=0) (h:z+W^n*c=x) (hz:seg cs 0 n=z) :
   seg (cs.set n c) 0 N=x:=by
 obtain ⟨r,rfl⟩:∃ r,N=n+(1+r):=⟨N - n - 1,by omega⟩
 rw [AB',AB',BC' (by omega),hz,Nat.zero_add]
 have e1:seg (cs.set n c) n 1=c:=by simp only [seg,Nat.pow_zero,Nat.one_mul,Nat.zero_add,Nat.add_zero];rw [getD_set,if_pos ⟨rfl,by omega⟩]
 have e2:seg (cs.set n c) (n+1) r=0:=Cx fun j _=>by rw [getD_set,if_neg (by omega)];exact h0 _ (by omega)
 rw [e1,e2,Nat.mul_zero,Nat.add_zero]
 exact h
theorem Fs {cs cs':List Nat} {n N S z m t:Nat} (hN:n≤N) (hs:∀ i,n≤i→cs'.getD i 0=cs.getD i 0) (hS:seg cs 0 N=S) (hz:seg cs' 0 n=z) (h:z+t=seg cs 0 n+W^n*m) :
   seg cs' 0 N+t=S+W^n*m:=by
 obtain ⟨r,rfl⟩:∃ r,N=n+r:=⟨N - n,by omega⟩
 rw [AB'] at hS ⊢
 rw [hz,Nat.zero_add,BH' (cs:=cs') (ds:=cs) (o:=n) (p:=n) (n:=r) (fun j _=>hs _ (by omega))]
 rw [Nat.zero_add] at hS
 omega
theorem Dz' {w:World} {a b x y:Nat} {va vb:Value} (ha:Nt w va a) (hb:Nt w vb b) (hx:x<W) (hy:y<W) (hs:len b≤1099511627776) (hl:len a<len b)
   (hle:b*y≤a*x) (hlt:a*x - b*y<W^len b) :
   Calls Tryz.prog 134 #[va,.int .u64 (x:Nat),vb,.int .u64 (y:Nat)] w (AI w (a*x - b*y)):=by
 obtain ⟨A,ca,ea,hca,hca2,_⟩:=id ha
 obtain ⟨A',cb,eb,hcb,hcb2,_⟩:=id hb
 subst ea
 subst eb
 have hmk:=BV (len b) (len b) rfl (by omega)
 have hms:=BD w (len b)
 have hmb:=Ba' w (len b)
 have hr0:=B7' w (len b)
 have hsub:=@EV
 have hlt1:((len a:Nat):Int)<((len b:Nat):Int):=by omega
 have HLE:=hid hle;have HLT:=hid hlt
 clear hle hlt
 go_enter Tryz.func134,Tryz.ntmps134
 go_wp2_with fail
 refine (BV' hr0 (by simp;omega) (As'.mono ha hmb (nL _)) (nL _) rfl hx).mono ?_
 rintro e w1 ⟨cs1,c1,rfl,hc1,hw1,hr1,hl1,hs1,hz1⟩
 rw [List.length_replicate] at hl1
 have k1:=hr1.cell (i:=len a) (by omega)
 have k2:=hr1.frozen (len a)
 generalize cs1.getD (len a) 0=d at k1
 have HL1:=hid hl1;have HS1:=hid hs1;have HZ1:=hid hz1
 clear hl1 hs1 hz1
 go_wp2_with fail
 have hr2:=hr1.set (i:=len a) hc1
 have hw2:=hw1.trans (Az.set w1 w.heap.size (len a) (.int .u64 (c1:Nat)))
 generalize w1.setCell ⟨w.heap.size,len a,none⟩ (.int .u64 (c1:Nat))=w2 at hr2 hw2 ⊢
 have bd2:Below w.heap.size w w2:=hmb.trans (hw2.below (by omega) (nL _))
 have hS:seg (cs1.set (len a) c1) 0 (len b)=a*x:=by
   refine F6' hl HL1.out (fun j hj=>?_) ?_ rfl
   · rw [HS1.out j (.inr (by omega)),AW]
   · have:=HZ1.out
     rwa [Cx (fun j _=>AW _ _),Nat.zero_add] at this
 have HS:=hid hS
 have hl2:(cs1.set (len a) c1).length=len b:=by rw [List.length_set,HL1.out]
 have HL2:=hid hl2
 generalize cs1.set (len a) c1=cs2 at hr2 HS HL2
 clear hS hl2 hr1 hw1 k1 k2
 go_wp2_with fail
 refine (Cm' hr2 (by rw [HL2.out];omega) (As'.mono hb bd2 (nL _)) (nL _) rfl hy).mono ?_
 rintro e w3 ⟨cs3,m,rfl,hm,hw3,hr3,hl3,-,hz3⟩
 have HL3:=hid hl3;have HZ3:=hid hz3
 clear hl3 hz3
 have hsz3:=bd2.size
 go_wp2_with fail
 refine wp_loop_rounds 1 ?_
 rw [rounds_succ]
 go_wp2_with fail
 refine (AV' (hr3.reads (o:=0) (by rw [HL3.out,HL2.out];omega) (nL _) (by omega))).mono ?_
 rintro e w4 ⟨v,rfl,hv,rfl⟩
 go_wp2_with fail
 go_ret
 refine Be.made ⟨v,rfl,hv,rfl⟩ (bd2.trans (hw3.below hsz3 (nL _))) hr3.lt ?_
 have e1:=HZ3.out
 rw [HS.out] at e1
 exact E1' (k:=0) (m:=m) (N:=len b) (by rw [Nat.mul_zero,Nat.add_zero];exact e1) HLE.out HLT.out (Br' hr3.2 _ _)
theorem DM' {w:World} {a b x y:Nat} {va vb:Value} (ha:Nt w va a) (hb:Nt w vb b) (hx:x<W) (hy:y<W) (hs:len a≤1099511627776) (hl:len b≤len a)
   (hle:b*y≤a*x) (hlt:a*x - b*y<W^len a) :
   Calls Tryz.prog 134 #[va,.int .u64 (x:Nat),vb,.int .u64 (y:Nat)] w (AI w (a*x - b*y)):=by
 obtain ⟨A,ca,ea,hca,hca2,_⟩:=id ha
 obtain ⟨A',cb,eb,hcb,hcb2,_⟩:=id hb
 subst ea
 subst eb
 have hmk:=BV (len a) (len a) rfl (by omega)
 have hms:=BD w (len a)
 have hmb:=Ba' w (len a)
 have hr0:=B7' w (len a)
 have hsub:=@EV
 have HLE:=hid hle;have HLT:=hid hlt
 clear hle hlt
 go_enter Tryz.func134,Tryz.ntmps134
 go_wp2_with fail
 refine (BV' hr0 (by simp) (As'.mono ha hmb (nL _)) (nL _) rfl hx).mono ?_
 rintro e w1 ⟨cs1,c1,rfl,hc1,hw1,hr1,hl1,hs1,hz1⟩
 rw [List.length_replicate] at hl1
 rw [Cx (fun j _=>AW _ _),Nat.zero_add] at hz1
 have HL1:=hid hl1;have HZ1:=hid hz1
 have bd1:Below w.heap.size w w1:=hmb.trans (hw1.below (by omega) (nL _))
 have hsz1:=bd1.size
 clear hl1 hs1 hz1
 go_wp2_with fail
 refine (Cm' hr1 (by rw [HL1.out];omega) (As'.mono hb bd1 (nL _)) (nL _) rfl hy).mono ?_
 rintro e w3 ⟨cs3,m,rfl,hm,hw3,hr3,hl3,hs3,hz3⟩
 have HL3:=hid hl3;have HS3:=hid hs3;have HZ3:=hid hz3
 have bd3:=bd1.trans (hw3.below hsz1 (nL _))
 clear hl3 hz3 hs3
 have hm':m<18446744073709551616:=hm
 go_wp2_with fail
 go_loopw [11,12] (fun mv iv wr=>∃ i miss:Nat,i≤len a∧len b≤i∧iv=.int .i64 i∧mv=.int .u64 miss∧miss<18446744073709551616∧Ip' w w.heap.size (len a) (b*y) (seg cs1 0 (len a)) i miss wr) (fun _ iv _=>len a - (intOf iv).toNat)
 case atStart =>
   refine ⟨len b,m,hl,nL _,rfl,rfl,hm,cs3,bd3,hr3,(by show _=_;rw [HL3.out,HL1.out]),?_⟩
   exact Fs hl (fun i hi=>HS3.out i (.inr (by omega))) rfl rfl HZ3.out
 case round =>
   obtain ⟨i,miss,hi,hbi,rfl,rfl,hmiss,cs,hbw,hr,HL,HE⟩:=hrel
   have c1':=fun (h:i<len a)=>hr.cell (i:=i) (by rw [HL.out];exact h)
   have c2:=hr.frozen i
   have hdW:=hr.getD_lt i
   generalize hdd:cs.getD i 0=d at c1' hdW
   have HD:=hid hdd
   clear hdd
   by_cases hlt:i<len a
   · have c1:=c1' hlt
     clear c1'
     go_wp2_with fail
     go_roundw
     case rel =>
       refine ⟨i+1,dhi d miss 0,by omega,by omega,by go_num,rfl,by have:=EU d miss 0;omega,cs.set i (dlo d miss 0),?_,hr.set (dlo_lt _ _ _),(by show _=_;rw [List.length_set,HL.out]),GK' HL.out hlt HD.out hdW hmiss HE.out⟩
       exact hbw.trans ((Az.set wr w.heap.size i (.int .u64 (dlo d miss 0:Nat))).below hbw.size (nL _))
     case measure=>simp [intOf];omega
   · obtain rfl:i=len a:=by omega
     clear c1'
     have hgr:=hr.lt
     go_wp2_with fail
     refine (AV' (hr.reads (o:=0) (by rw [HL.out];omega) (nL _) (by omega))).mono ?_
     rintro e w4 ⟨v,rfl,hv,rfl⟩
     go_wp2_with fail
     go_ret
     refine Be.made ⟨v,rfl,hv,rfl⟩ hbw hgr ?_
     refine E1' (k:=c1) (m:=miss) ?_ HLE.out HLT.out (Br' hr.2 _ _)
     have e1:=HE.out
     have e2:=HZ1.out
     omega
theorem BO {w:World} {a b x y:Nat} {va vb:Value} (ha:Nt w va a) (hb:Nt w vb b) (hx:x<W) (hy:y<W) (hs:len a≤1099511627776) (ht:len b≤1099511627776)
   (hle:b*y≤a*x) (hlt:a*x - b*y<W^max (len a) (len b)) :
   Calls Tryz.prog 134 #[va,.int .u64 (x:Nat),vb,.int .u64 (y:Nat)] w (AI w (a*x - b*y)):=by
 rcases Nat.lt_or_ge (len a) (len b) with h | h
 · exact Dz' ha hb hx hy ht h hle (by rwa [Nat.max_eq_right (Nat.le_of_lt h)] at hlt)
 · exact DM' ha hb hx hy hs h hle (by rwa [Nat.max_eq_left h] at hlt)
end Go.Proofs.YtflopjfnppolgaaGreatDoor
namespace Vx
def Ci' (a b a0 a1 b0 b1:Nat) (ev:Bool):Prop :=
  ∃ x y:Nat,y≤x∧x+y≤a∧Nat.gcd x y=Nat.gcd a b ∧
    (if ev then b0*b+x=a0*a∧a1*a+y=b1*b else a0*a+x=b0*b∧b1*b+y=a1*a)
def BI (T N top next a1 b1 a2 b2:Nat) (ev:Bool):Prop :=
  (if ev then top+a1*T=b1*N∧next+b2*N=a2*T∧a2*b1=a1*b2+1
   else top+b1*N=a1*T∧next+a2*T=b2*N∧a1*b2=a2*b1+1) ∧
  a2≤b2∧a1+a2≤b1+b2∧1≤b2∧next≤top
theorem GL {T N:Nat} (h:N≤T):BI T N T N 1 0 0 1 false:=by
 unfold BI
 refine ⟨?_,by omega,by omega,by omega,h⟩
 simp
theorem CS' {T N top next a1 b1 a2 b2:Nat} {ev:Bool} (h:BI T N top next a1 b1 a2 b2 ev):b2*top+b1*next=T:=by
 unfold BI at h
 obtain ⟨h,-⟩:=h
 cases ev
 · simp only [Bool.false_eq_true,if_false] at h
   obtain ⟨h1,h2,h3⟩:=h
   have e1:=congrArg (b2 * ·) h1
   have e2:=congrArg (b1 * ·) h2
   have e3:=congrArg (· * T) h3
   simp only [Nat.mul_add,Nat.add_mul,Nat.one_mul] at e1 e2 e3
   have e4:b2*(b1*N)=b1*(b2*N):=Nat.mul_left_comm _ _ _
   have e5:b2*(a1*T)=a1*b2*T:=by rw [←Nat.mul_assoc,Nat.mul_comm b2]
   have e6:b1*(a2*T)=a2*b1*T:=by rw [←Nat.mul_assoc,Nat.mul_comm b1]
   omega
 · simp only [if_true] at h
   obtain ⟨h1,h2,h3⟩:=h
   have e1:=congrArg (b2 * ·) h1
   have e2:=congrArg (b1 * ·) h2
   have e3:=congrArg (· * T) h3
   simp only [Nat.mul_add,Nat.add_mul,Nat.one_mul] at e1 e2 e3
   have e4:b2*(b1*N)=b1*(b2*N):=Nat.mul_left_comm _ _ _
   have e5:b2*(a1*T)=a1*b2*T:=by rw [←Nat.mul_assoc,Nat.mul_comm b2]
   have e6:b1*(a2*T)=a2*b1*T:=by rw [←Nat.mul_assoc,Nat.mul_comm b1]
   omega
theorem DA {T N top next a1 b1 a2 b2:Nat} {ev:Bool} (h:BI T N top next a1 b1 a2 b2 ev) (hn:0<next) :
   BI T N next (top%next) a2 b2 (a1+top / next*a2) (b1+top / next*b2) (!ev):=by
 have hq:1≤top / next:=by
   rw [Nat.le_div_iff_mul_le hn]
   have:=h.2.2.2.2
   omega
 have hd:=Nat.div_add_mod top next
 have hm:=Nat.mod_lt top hn
 unfold BI at *
 obtain ⟨h,h4,h5,h6,h7⟩:=h
 generalize top / next=q at *
 generalize top%next=r at *
 have hb:a2≤q*a2:=Nat.le_mul_of_pos_left _ hq
 have hb2:b2≤q*b2:=Nat.le_mul_of_pos_left _ hq
 have hqq:q*a2+b2≤q*b2+a2:=by
   obtain ⟨d,rfl⟩:∃ d,b2=a2+d:=⟨b2 - a2,by omega⟩
   rw [Nat.mul_add]
   have:=Nat.le_mul_of_pos_left d hq
   omega
 refine ⟨?_,by omega,by omega,by omega,by omega⟩
 cases ev
 · simp only [Bool.false_eq_true,if_false,Bool.not_false,if_true] at h ⊢
   obtain ⟨h1,h2,h3⟩:=h
   refine ⟨h2,?_,?_⟩
   · have e1:=congrArg (q * ·) h2
     simp only [Nat.mul_add] at e1
     simp only [Nat.add_mul]
     have e2:next*q=q*next:=Nat.mul_comm _ _
     have e3:q*(a2*T)=q*a2*T:=(Nat.mul_assoc _ _ _).symm
     have e4:q*(b2*N)=q*b2*N:=(Nat.mul_assoc _ _ _).symm
     omega
   · simp only [Nat.add_mul,Nat.mul_add]
     have e3:q*a2*b2=a2*(q*b2):=by rw [Nat.mul_assoc,Nat.mul_left_comm]
     omega
 · simp only [if_true,Bool.not_true,Bool.false_eq_true,if_false] at h ⊢
   obtain ⟨h1,h2,h3⟩:=h
   refine ⟨h2,?_,?_⟩
   · have e1:=congrArg (q * ·) h2
     simp only [Nat.mul_add] at e1
     simp only [Nat.add_mul]
     have e2:next*q=q*next:=Nat.mul_comm _ _
     have e3:q*(a2*T)=q*a2*T:=(Nat.mul_assoc _ _ _).symm
     have e4:q*(b2*N)=q*b2*N:=(Nat.mul_assoc _ _ _).symm
     omega
   · simp only [Nat.add_mul,Nat.mul_add]
     have e3:q*a2*b2=a2*(q*b2):=by rw [Nat.mul_assoc,Nat.mul_left_comm]
     omega
theorem Iq {a b x y p q r s:Nat} (h1:a=p*x+q*y) (h2:b=r*x+s*y) (h3:∀ d,d∣a→d∣b→d∣x) (h4:∀ d,d∣a→d∣b→d∣y):Nat.gcd x y=Nat.gcd a b:=by
 apply Nat.dvd_antisymm
 · apply Nat.dvd_gcd
   · rw [h1];exact Nat.dvd_add (Nat.dvd_mul_left_of_dvd (Nat.gcd_dvd_left x y) _) (Nat.dvd_mul_left_of_dvd (Nat.gcd_dvd_right x y) _)
   · rw [h2];exact Nat.dvd_add (Nat.dvd_mul_left_of_dvd (Nat.gcd_dvd_left x y) _) (Nat.dvd_mul_left_of_dvd (Nat.gcd_dvd_right x y) _)
 · exact Nat.dvd_gcd (h3 _ (Nat.gcd_dvd_left a b) (Nat.gcd_dvd_right a b)) (h4 _ (Nat.gcd_dvd_left a b) (Nat.gcd_dvd_right a b))
theorem Cp {d u v x:Nat} (h:u+x=v) (hu:d∣u) (hv:d∣v):d∣x:=(Nat.dvd_add_right hu).1 (h ▸ hv)
theorem E2' {T N top next a1 b1 a2 b2 a b la lb K:Nat} {ev:Bool} (h:BI T N top next a1 b1 a2 b2 ev) (ha:a=T*K+la) (hb:b=N*K+lb) (hla:la≤K) (hlb:lb≤K)
   (ht1:b2≤next) (ht2:b1+b2+next≤top) (hb1:0<b1):Ci' a b a1 a2 b1 b2 (!ev):=by
 have hT:=CS' h
 unfold BI at h
 obtain ⟨h,h4,h5,h6,h7⟩:=h
 have p1:b1*K+b2*K+next*K≤top*K:=by rw [←Nat.add_mul,←Nat.add_mul];exact Nat.mul_le_mul_right _ ht2
 have p2:b2*K≤next*K:=Nat.mul_le_mul_right _ ht1
 have p3:a2*K≤b2*K:=Nat.mul_le_mul_right _ h4
 have p4:a1*K+a2*K≤b1*K+b2*K:=by rw [←Nat.add_mul,←Nat.add_mul];exact Nat.mul_le_mul_right _ h5
 have q1:a1*la≤a1*K:=Nat.mul_le_mul_left _ hla
 have q2:a2*la≤a2*K:=Nat.mul_le_mul_left _ hla
 have q3:b1*lb≤b1*K:=Nat.mul_le_mul_left _ hlb
 have q4:b2*lb≤b2*K:=Nat.mul_le_mul_left _ hlb
 have ea1:a1*a=a1*T*K+a1*la:=by rw [ha,Nat.mul_add,Nat.mul_assoc]
 have ea2:a2*a=a2*T*K+a2*la:=by rw [ha,Nat.mul_add,Nat.mul_assoc]
 have eb1:b1*b=b1*N*K+b1*lb:=by rw [hb,Nat.mul_add,Nat.mul_assoc]
 have eb2:b2*b=b2*N*K+b2*lb:=by rw [hb,Nat.mul_add,Nat.mul_assoc]
 have fin:∀ x y:Nat,y≤x→a=b2*x+b1*y→b=a2*x+a1*y→(∀ d,d∣a→d∣b→d∣x)→(∀ d,d∣a→d∣b→d∣y)→y≤x∧x+y≤a∧Nat.gcd x y=Nat.gcd a b:=by
   intro x y hxy e1 e2 h3 h4
   have g1:=Nat.le_mul_of_pos_left x h6
   have g2:=Nat.le_mul_of_pos_left y hb1
   exact ⟨hxy,by omega,Iq e1 e2 h3 h4⟩
 cases ev
 · simp only [Bool.false_eq_true,if_false] at h
   obtain ⟨h1,h2,h3⟩:=h
   have k1:=congrArg (· * K) h1
   have k2:=congrArg (· * K) h2
   simp only [Nat.add_mul] at k1 k2
   obtain ⟨x,hx⟩:∃ x,b1*b+x=a1*a:=⟨a1*a - b1*b,by omega⟩
   obtain ⟨y,hy⟩:∃ y,a2*a+y=b2*b:=⟨b2*b - a2*a,by omega⟩
   obtain ⟨f1,f2,f3⟩:=fin x y (by omega)
     (by
       have e1:=congrArg (b2 * ·) hx
       have e2:=congrArg (b1 * ·) hy
       have e3:=congrArg (· * a) h3
       simp only [Nat.mul_add,Nat.add_mul,Nat.one_mul,←Nat.mul_assoc] at e1 e2 e3
       rw [Nat.mul_comm b2 b1,Nat.mul_comm b2 a1] at e1
       rw [Nat.mul_comm b1 a2] at e2
       omega)
     (by
       have e1:=congrArg (a2 * ·) hx
       have e2:=congrArg (a1 * ·) hy
       have e3:=congrArg (· * b) h3
       simp only [Nat.mul_add,Nat.add_mul,Nat.one_mul,←Nat.mul_assoc] at e1 e2 e3
       rw [Nat.mul_comm a1 a2] at e2
       omega)
     (fun d hda hdb=>Cp hx (Nat.dvd_mul_left_of_dvd hdb _) (Nat.dvd_mul_left_of_dvd hda _))
     (fun d hda hdb=>Cp hy (Nat.dvd_mul_left_of_dvd hda _) (Nat.dvd_mul_left_of_dvd hdb _))
   exact ⟨x,y,f1,f2,f3,by simp only [Bool.not_false,if_true];exact ⟨hx,hy⟩⟩
 · simp only [if_true] at h
   obtain ⟨h1,h2,h3⟩:=h
   have k1:=congrArg (· * K) h1
   have k2:=congrArg (· * K) h2
   simp only [Nat.add_mul] at k1 k2
   obtain ⟨x,hx⟩:∃ x,a1*a+x=b1*b:=⟨b1*b - a1*a,by omega⟩
   obtain ⟨y,hy⟩:∃ y,b2*b+y=a2*a:=⟨a2*a - b2*b,by omega⟩
   obtain ⟨f1,f2,f3⟩:=fin x y (by omega)
     (by
       have e1:=congrArg (b2 * ·) hx
       have e2:=congrArg (b1 * ·) hy
       have e3:=congrArg (· * a) h3
       simp only [Nat.mul_add,Nat.add_mul,Nat.one_mul,←Nat.mul_assoc] at e1 e2 e3
       rw [Nat.mul_comm b2 b1,Nat.mul_comm b2 a1] at e1
       rw [Nat.mul_comm b1 a2] at e2
       omega)
     (by
       have e1:=congrArg (a2 * ·) hx
       have e2:=congrArg (a1 * ·) hy
       have e3:=congrArg (· * b) h3
       simp only [Nat.mul_add,Nat.add_mul,Nat.one_mul,←Nat.mul_assoc] at e1 e2 e3
       rw [Nat.mul_comm a1 a2] at e2
       omega)
     (fun d hda hdb=>Cp hx (Nat.dvd_mul_left_of_dvd hda _) (Nat.dvd_mul_left_of_dvd hdb _))
     (fun d hda hdb=>Cp hy (Nat.dvd_mul_left_of_dvd hdb _) (Nat.dvd_mul_left_of_dvd hda _))
   exact ⟨x,y,f1,f2,f3,by simp only [Bool.not_true,Bool.false_eq_true,if_false];exact ⟨hx,hy⟩⟩
end Vx
namespace Go.Proofs.YtflopjfnppolgaaGreatDoor
open Lib (hid)
open Go.RowKit
open Vx
theorem CT {h l s:Nat} (hs:s≤63) (hh:h*2^s<W) (hl:l<W) :
   bits .or .u64 (IntKind.u64.wrap (((h:Nat):Int)*2^s)) (((l:Nat):Int) / 2^(64 - s))=(((h*W+l) / 2^(64 - s):Nat):Int):=by
 have e1:IntKind.u64.wrap (((h:Nat):Int)*2^s)=((h*2^s:Nat):Int):=by
   have hh':h*2^s<18446744073709551616:=hh
   rw [Bi,←Int.natCast_mul,IntKind.wrap_u64];omega
 have e2:((l:Nat):Int) / 2^(64 - s)=((l / 2^(64 - s):Nat):Int):=by rw [Bi,←Int.natCast_ediv]
 have hd:l / 2^(64 - s)<2^s:=by
   rw [Nat.div_lt_iff_lt_mul (Nat.two_pow_pos _),←BN' (by omega)];exact hl
 rw [e1,e2,bits_or_u64_nat _ _ hh (Nat.lt_of_le_of_lt (Nat.div_le_self _ _) hl)]
 congr 1
 rw [Nat.mul_comm h,←Nat.two_pow_add_eq_or_of_lt hd,BN' (r:=s) (by omega),Nat.mul_comm (2^s) (2^(64 - s)),Nat.mul_left_comm,Nat.mul_comm h (2^s)]
 rw [Nat.mul_add_div (Nat.two_pow_pos _)]
def CT' (w:World) (a b:Nat) (e:Ending) (w':World):Prop :=
  ∃ (a0 a1 b0 b1:Nat) (ev:Bool),e=.returned (.agg #[.int .u64 (a0:Nat),.int .u64 (a1:Nat),.int .u64 (b0:Nat),.int .u64 (b1:Nat),.bool ev]) ∧
    a0<W∧a1<W∧b0<W∧b1<W∧(b0=0∨Ci' a b a0 a1 b0 b1 ev)∧Below w.heap.size w w'
def Cy' (w:World) (gs a b T N top next a2 b2:Nat) (wr:World):Prop :=
  ∃ (a0 a1 b0 b1:Nat) (ev:Bool),Below w.heap.size w wr∧a0<18446744073709551616∧a1<18446744073709551616∧b0<18446744073709551616∧b1<18446744073709551616 ∧
    (∃ r0 r1 r2 r3 r4,wr.heap[gs - 1]?=some (.cells #[r0,r1,r2,r3,r4] 139 (0,0)))∧wr.heap[gs]?=some (.cells #[.int .u64 (a0:Nat),.int .u64 (a1:Nat),.int .u64 (b0:Nat),.int .u64 (b1:Nat),.bool ev] 139 (0,0)) ∧
    Hid (BI T N top next a1 b1 a2 b2 ev)∧Hid (b0=0∨Ci' a b a0 a1 b0 b1 ev)
theorem CI' (w:World) (n a b T N:Nat) (h:N≤T) :
   Cy' w (w.heap.size+1) a b T N T N 0 1 (((w.alloc (.cells #[.int .u64 0,.int .u64 0,.int .u64 0,.int .u64 0,.bool false] 139)).drewN n).alloc (.cells #[.int .u64 0,.int .u64 1,.int .u64 0,.int .u64 0,.bool false] 139)):=by
 have b1:Below w.heap.size w (w.alloc (.cells #[.int .u64 0,.int .u64 0,.int .u64 0,.int .u64 0,.bool false] 139)):=(Below.refl _ _).alloc (nL _) _
 have b2:Below w.heap.size w ((w.alloc (.cells #[.int .u64 0,.int .u64 0,.int .u64 0,.int .u64 0,.bool false] 139)).drewN n):=Ae' b1 (Aw _ n)
 have g1:=hA_ w (.cells #[.int .u64 0,.int .u64 0,.int .u64 0,.int .u64 0,.bool false] 139)
 have hsz:((w.alloc (.cells #[.int .u64 0,.int .u64 0,.int .u64 0,.int .u64 0,.bool false] 139)).drewN n).heap.size=w.heap.size+1:=by
   show (w.alloc _).heap.size=_
   simp
 have g1':((w.alloc (.cells #[.int .u64 0,.int .u64 0,.int .u64 0,.int .u64 0,.bool false] 139)).drewN n).heap[w.heap.size]?=some (.cells #[.int .u64 0,.int .u64 0,.int .u64 0,.int .u64 0,.bool false] 139):=g1
 generalize (w.alloc (.cells #[.int .u64 0,.int .u64 0,.int .u64 0,.int .u64 0,.bool false] 139)).drewN n=w1 at *
 refine ⟨0,1,0,0,false,b2.alloc (by omega) _,by omega,by omega,by omega,by omega,⟨.int .u64 0,.int .u64 0,.int .u64 0,.int .u64 0,.bool false,?_⟩,?_,GL h,.inl rfl⟩
 · rw [Nat.add_sub_cancel,Below.heap_alloc _ _ _ (by omega)];exact g1'
 · rw [←hsz];exact hA_ w1 _
theorem CU {w wr:World} {a b T N top next a0 a1 b0 b1 a2 b2 u v nq:Nat} {ev:Bool} {r0 r1 r2 r3 r4:Value} (hbw:Below w.heap.size w wr)
   (hres:wr.heap[w.heap.size]?=some (.cells #[r0,r1,r2,r3,r4] 139 (0,0)))
   (hst:wr.heap[w.heap.size+1]?=some (.cells #[.int .u64 (a0:Nat),.int .u64 (a1:Nat),.int .u64 (b0:Nat),.int .u64 (b1:Nat),.bool ev] 139 (0,0)))
   (ha1:a1<18446744073709551616) (ha2:a2<18446744073709551616) (hb1:b1<18446744073709551616) (hb2:b2<18446744073709551616)
   (h1:BI T N top next a2 b2 u v (!ev)) (h2:b1=0∨Ci' a b a1 a2 b1 b2 (!ev)) :
   Cy' w (w.heap.size+1) a b T N top next u v
     ((((((wr.drewN nq).setCell ⟨w.heap.size+1,0,none⟩ (.int .u64 (a1:Nat))).setCell ⟨w.heap.size+1,1,none⟩ (.int .u64 (a2:Nat))).setCell ⟨w.heap.size+1,2,none⟩ (.int .u64 (b1:Nat))).setCell
       ⟨w.heap.size+1,3,none⟩ (.int .u64 (b2:Nat))).setCell ⟨w.heap.size+1,4,none⟩ (.bool (!ev))):=by
 have g0:(wr.drewN nq).heap[w.heap.size+1]?=_:=hst
 have q0:(wr.drewN nq).heap[w.heap.size]?=_:=hres
 have bq:Below w.heap.size w (wr.drewN nq):=hbw.trans ⟨rfl,rfl,rfl,nL _,fun _ _=>rfl⟩
 generalize wr.drewN nq=wq at g0 q0 bq ⊢
 have g1:=heap_setCell_same wq _ 0 _ _ (.int .u64 (a1:Nat)) g0
 have g2:=heap_setCell_same _ _ 1 _ _ (.int .u64 (a2:Nat)) g1
 have g3:=heap_setCell_same _ _ 2 _ _ (.int .u64 (b1:Nat)) g2
 have g4:=heap_setCell_same _ _ 3 _ _ (.int .u64 (b2:Nat)) g3
 have g5:=heap_setCell_same _ _ 4 _ _ (.bool (!ev)) g4
 refine ⟨a1,a2,b1,b2,!ev,?_,ha1,ha2,hb1,hb2,⟨r0,r1,r2,r3,r4,?_⟩,g5,h1,h2⟩
 · exact ((((bq.setCell (Nat.le_succ _) _).setCell (Nat.le_succ _) _).setCell (Nat.le_succ _) _).setCell (Nat.le_succ _) _).setCell (Nat.le_succ _) _
 · rw [Nat.add_sub_cancel]
   rw [heap_setCell_other _ _ _ _ (by simp),heap_setCell_other _ _ _ _ (by simp),heap_setCell_other _ _ _ _ (by simp),heap_setCell_other _ _ _ _ (by simp),heap_setCell_other _ _ _ _ (by simp)]
   exact q0
theorem DN {a s:Nat} (hl:2≤len a) (hs:s=64 - bitlen (word a (len a - 1))) :
   word a (len a - 1)*2^s<W∧(word a (len a - 1)*W+word a (len a - 2)) / 2^(64 - s)=a / (W^(len a - 2)*2^(64 - s)):=by
 have h0:=Ak.1 (show 0<len a by omega)
 obtain ⟨e1,e2⟩:=BW' h0
 have hw:=word_lt a (len a - 1)
 refine ⟨?_,?_⟩
 · have hbl:bitlen (word a (len a - 1))=(word a (len a - 1)).log2+1:=by unfold bitlen;rw [if_neg (by omega)]
   rw [hbl] at hs
   generalize word a (len a - 1)=t at *
   have hlog:t.log2<64:=(Nat.log2_lt (by omega)).2 (by rw [←AT'];exact hw)
   have h2:t<2^(t.log2+1):=Nat.lt_log2_self
   have:=Nat.mul_lt_mul_of_pos_right h2 (Nat.two_pow_pos s)
   rwa [←Nat.pow_add,show t.log2+1+s=64 by omega,←AT'] at this
 · rw [←Nat.div_div_eq_div_mul]
   congr 1
   rw [Ba a (len a - 2),show len a - 2+1=len a - 1 by omega,←e1]
   rw [Nat.mul_comm W,Nat.add_comm]
theorem IO' {a b s:Nat} (hl:2≤len a) (hba:b≤a) (hlb:len b=len a) (hs:s=64 - bitlen (word a (len a - 1))) :
   word b (len a - 1)*2^s<W∧(word b (len a - 1)*W+word b (len a - 2)) / 2^(64 - s)=b / (W^(len a - 2)*2^(64 - s)):=by
 have h0:=Ak.1 (show 0<len b by omega)
 obtain ⟨e1,e2⟩:=BW' h0
 have g0:=Ak.1 (show 0<len a by omega)
 obtain ⟨f1,f2⟩:=BW' g0
 rw [hlb] at e1
 refine ⟨?_,?_⟩
 · have h1:word b (len a - 1)≤word a (len a - 1):=by rw [e1,f1];exact Nat.div_le_div_right hba
   exact Nat.lt_of_le_of_lt (Nat.mul_le_mul_right _ h1) (DN hl hs).1
 · rw [←Nat.div_div_eq_div_mul]
   congr 1
   rw [Ba b (len a - 2),show len a - 2+1=len a - 1 by omega,←e1]
   rw [Nat.mul_comm W,Nat.add_comm]
theorem E3' {w:World} {a b:Nat} {va vb:Value} (ha:Nt w va a) (hb:Nt w vb b) (hs:len a≤1099511627776) (hba:b≤a) (hl2:2≤len b) (hl:len b=len a) :
   Calls Tryz.prog 98 #[va,vb] w (CT' w a b):=by
 obtain ⟨A,ca,ea,hca,hca2,_,hp⟩:=id ha
 obtain ⟨A',cb,eb,hcb,hcb2,_,hp'⟩:=id hb
 obtain ⟨g,o,rfl,hg,hcell⟩:=hp (Ak.1 (by omega))
 obtain ⟨g',o',rfl,hg',hcell'⟩:=hp' (Ak.1 (by omega))
 subst ea
 subst eb
 have c1:=hcell (len a - 1) (by omega)
 have c2:=hcell (len a - 2) (by omega)
 have d1:=hcell' (len a - 1) (by omega)
 have d2:=hcell' (len a - 2) (by omega)
 have hlz:=Cy (word a (len a - 1)) (word_lt _ _)
 obtain ⟨s,hsd⟩:=eX (64 - bitlen (word a (len a - 1)))
 rw [←hsd] at hlz
 have hs63:s≤63:=(F5' (Ak.1 (by omega)) hsd).1
 have hs64:(s:Int)≤63:=by omega
 have HL:=hid hl
 have e1:((len b:Nat):Int)=((len a:Nat):Int):=by omega
 have HS:=hid hsd
 clear hl hsd hcell hcell' hp hp'
 have hl1:2≤len a:=by have:=HL.out;omega
 rw [HL.out]
 go_enter Tryz.func98,Tryz.ntmps98
 go_wp2_with fail
 refine (hlz _).mono ?_
 rintro e w' ⟨rfl,rfl⟩
 have hx1:=word_lt a (len a - 1)
 have hx2:=word_lt a (len a - 2)
 have hy1:=word_lt b (len a - 1)
 have hy2:=word_lt b (len a - 2)
 have i1:(2:Int)≤((len a:Nat):Int):=by omega
 have TA:=hid (DN (a:=a) hl1 HS.out)
 have TB:=hid (IO' (a:=a) (b:=b) hl1 hba HL.out HS.out)
 generalize word a (len a - 1)=x1 at *
 generalize word a (len a - 2)=x2 at *
 generalize word b (len a - 1)=y1 at *
 generalize word b (len a - 2)=y2 at *
 have T1:=hid (CT (h:=x1) (l:=x2) hs63 TA.out.1 hx2)
 have T2:=hid (CT (h:=y1) (l:=y2) hs63 TB.out.1 hy2)
 go_wp2_with fail
 go_quiet (fail)
 rw [T1.out]
 generalize hT:(x1*W+x2) / 2^(64 - s)=T at *
 go_wp2_with fail
 go_quiet (fail)
 rw [T2.out]
 generalize hN:(y1*W+y2) / 2^(64 - s)=N at *
 have hTa:T=a / (W^(len a - 2)*2^(64 - s)):=TA.out.2
 have hNb:N=b / (W^(len a - 2)*2^(64 - s)):=TB.out.2
 have HT:=hid hTa;have HN:=hid hNb
 have hNT:N≤T:=by rw [hTa,hNb];exact Nat.div_le_div_right hba
 have hTW:T<18446744073709551616:=by
   rw [←hT,Nat.div_lt_iff_lt_mul (Nat.two_pow_pos _)]
   have h1:=TA.out.1
   have h3:W=2^s*2^(64 - s):=BN' (by omega)
   have h4:x1+1≤2^(64 - s):=by
     apply Nat.lt_of_mul_lt_mul_right (a:=2^s)
     rw [Nat.mul_comm (2^(64 - s)),←h3];exact h1
   have h5:=mL W h4
   rw [Nat.mul_add,Nat.mul_one,Nat.mul_comm W x1] at h5
   have h6:W*2^(64 - s)=18446744073709551616*2^(64 - s):=rfl
   omega
 clear hT hN hTa hNb TA TB T1 T2 c1 c2 d1 d2 hx1 hx2 hy1 hy2
 go_wp2_with fail
 go_loopw [7,8,10,11] (fun tv nv av bv wr=>∃ top next a2 b2:Nat,tv=.int .u64 top∧nv=.int .u64 next∧av=.int .u64 a2∧bv=.int .u64 b2∧top<18446744073709551616∧next≤top∧a2<18446744073709551616∧b2<18446744073709551616∧Cy' w (w.heap.size+1) a b T N top next a2 b2 wr) (fun _ nv _ _ _=>(intOf nv).toNat)
 case atStart=>exact ⟨T,N,0,1,rfl,rfl,rfl,rfl,hTW,hNT,by omega,by omega,CI' _ _ _ _ _ _ hNT⟩
 case round =>
   obtain ⟨top,next,a2,b2,rfl,rfl,rfl,rfl,htop,hnt,ha2,hb2,a0,a1,b0,b1,ev,hbw,ha0',ha1',hb0',hb1',⟨r0,r1,r2,r3,r4,hres⟩,hst,HI,HO⟩:=hrel
   rw [Nat.add_sub_cancel] at hres
   have k0:wr.cell? ⟨w.heap.size+1,0,none⟩=some (.int .u64 (a0:Nat)):=cR wr _ 0 _ _ _ hst
   have k1:wr.cell? ⟨w.heap.size+1,1,none⟩=some (.int .u64 (a1:Nat)):=cR wr _ 1 _ _ _ hst
   have k2:wr.cell? ⟨w.heap.size+1,2,none⟩=some (.int .u64 (b0:Nat)):=cR wr _ 2 _ _ _ hst
   have k3:wr.cell? ⟨w.heap.size+1,3,none⟩=some (.int .u64 (b1:Nat)):=cR wr _ 3 _ _ _ hst
   have k4:wr.cell? ⟨w.heap.size+1,4,none⟩=some (.bool ev):=cR wr _ 4 _ _ _ hst
   have m0:wr.cell? ⟨w.heap.size,0,none⟩=some r0:=cR wr _ 0 _ _ _ hres
   have m1:wr.cell? ⟨w.heap.size,1,none⟩=some r1:=cR wr _ 1 _ _ _ hres
   have m2:wr.cell? ⟨w.heap.size,2,none⟩=some r2:=cR wr _ 2 _ _ _ hres
   have m3:wr.cell? ⟨w.heap.size,3,none⟩=some r3:=cR wr _ 3 _ _ _ hres
   have m4:wr.cell? ⟨w.heap.size,4,none⟩=some r4:=cR wr _ 4 _ _ _ hres
   have f0:=fun j=>fR wr _ j _ _ hst
   have f1:=fun j=>fR wr _ j _ _ hres
   have HH:=hid hst
   have HRS:=hid hres
   clear hst hres
   by_cases hc1:b2≤next
   · have hTs:=CS' HI.out
     have hb21:1≤b2:=HI.out.2.2.2.1
     have hbb:b1+b2<18446744073709551616:=by
       have g1:=Nat.le_mul_of_pos_right b2 (show 0<top by omega)
       have g2:=Nat.le_mul_of_pos_right b1 (show 0<next by omega)
       omega
     by_cases hc2:b1+b2+next≤top
     · have hn1:0<next:=by omega
       have hnew:=DA HI.out hn1
       have hT2:=CS' hnew
       have hord:=hnew.2.1
       obtain ⟨q,hq⟩:=eX (top / next)
       obtain ⟨r,hr⟩:=eX (top%next)
       rw [←hq,←hr] at hnew hT2
       rw [←hq] at hord
       have hqi:((top:Nat):Int) / ((next:Nat):Int)=((q:Nat):Int):=by rw [hq];exact (Int.natCast_ediv _ _).symm
       have hri:((top:Nat):Int)%((next:Nat):Int)=((r:Nat):Int):=by rw [hr];exact (Int.natCast_emod _ _).symm
       have hq64:q<18446744073709551616:=by rw [hq];exact Nat.lt_of_le_of_lt (Nat.div_le_self _ _) htop
       have hrn:r<next:=by rw [hr];exact Nat.mod_lt _ hn1
       obtain ⟨p,hp⟩:=eX (q*a2)
       obtain ⟨pb,hpb⟩:=eX (q*b2)
       have hpi:((q:Nat):Int)*((a2:Nat):Int)=((p:Nat):Int):=by rw [hp];exact (Int.natCast_mul _ _).symm
       have hpbi:((q:Nat):Int)*((b2:Nat):Int)=((pb:Nat):Int):=by rw [hpb];exact (Int.natCast_mul _ _).symm
       rw [←hp,←hpb] at hnew hord
       rw [←hpb] at hT2
       have hbn:b1+pb<18446744073709551616:=by
         have g1:=Nat.le_mul_of_pos_right (b1+pb) hn1
         omega
       have han:a1+p<18446744073709551616:=by omega
       have HNW:=hid hnew
       have hne0:((next:Nat):Int)≠0:=by omega
       have hc2i:((b1:Nat):Int)+((b2:Nat):Int)≤((top:Nat):Int) - ((next:Nat):Int):=by omega
       clear hTs hnew hT2 hq hr hp hpb
       have hp64:p<18446744073709551616:=by omega
       have hpb64:pb<18446744073709551616:=by omega
       go_wp2_with fail
       go_quiet (fail)
       go_wp2_with fail
       go_roundw
       case rel =>
         have hok:b1=0∨Ci' a b a1 a2 b1 b2 (!ev):=by
           rcases Nat.eq_zero_or_pos b1 with h0 | h0
           · exact .inl h0
           · exact .inr (E2' (K:=(W^(len a - 2)*2^(64 - s))) (la:=a%(W^(len a - 2)*2^(64 - s))) (lb:=b%(W^(len a - 2)*2^(64 - s))) HI.out (by rw [HT.out,Nat.mul_comm];exact (Nat.div_add_mod _ _).symm) (by rw [HN.out,Nat.mul_comm];exact (Nat.div_add_mod _ _).symm) (Nat.le_of_lt (Nat.mod_lt _ (Nat.mul_pos (AH' _) (Nat.two_pow_pos _)))) (Nat.le_of_lt (Nat.mod_lt _ (Nat.mul_pos (AH' _) (Nat.two_pow_pos _)))) hc1 hc2 h0)
         exact ⟨next,r,a1+p,b1+pb,rfl,by rw [hri],by go_num,by go_num,by omega,by omega,han,hbn,CU hbw HRS.out HH.out ha1' ha2 hb1' hb2 HNW.out hok⟩
       case measure=>simp only [intOf];rw [hri];simpa using hrn
     · have hc2i:¬ ((b1:Nat):Int)+((b2:Nat):Int)≤((top:Nat):Int) - ((next:Nat):Int):=by omega
       clear hTs
       go_wp2_with fail
       refine bP (v:=.agg #[.int .u64 (a0:Nat),.int .u64 (a1:Nat),.int .u64 (b0:Nat),.int .u64 (b1:Nat),.bool ev]) ?_ rfl ?_
       · simp [results,Tryz.results98,go_sem, *]
       · exact ⟨a0,a1,b0,b1,ev,rfl,ha0',ha1',hb0',hb1',HO.out,((((hbw.setCell (nL _) _).setCell (nL _) _).setCell (nL _) _).setCell (nL _) _).setCell (nL _) _⟩
   · go_wp2_with fail
     refine bP (v:=.agg #[.int .u64 (a0:Nat),.int .u64 (a1:Nat),.int .u64 (b0:Nat),.int .u64 (b1:Nat),.bool ev]) ?_ rfl ?_
     · simp [results,Tryz.results98,go_sem, *]
     · exact ⟨a0,a1,b0,b1,ev,rfl,ha0',ha1',hb0',hb1',HO.out,((((hbw.setCell (nL _) _).setCell (nL _) _).setCell (nL _) _).setCell (nL _) _).setCell (nL _) _⟩
theorem Hs' (y s:Nat):((y:Nat):Int) / 2^(64 - s)=((y / 2^(64 - s):Nat):Int):=by rw [Bi,←Int.natCast_ediv]
theorem IP {b s n:Nat} (hl:len b+1=n):word b (n - 2) / 2^(64 - s)=b / (W^(n - 2)*2^(64 - s)):=by
 rw [←Nat.div_div_eq_div_mul]
 congr 1
 unfold word
 apply Nat.mod_eq_of_lt
 rw [Nat.div_lt_iff_lt_mul (AH' _),←Nat.pow_succ']
 exact ltl (Ao b) (Nat.pow_le_pow_right W_pos (by omega))
theorem E4' {w:World} {a b:Nat} {va vb:Value} (ha:Nt w va a) (hb:Nt w vb b) (hs:len a≤1099511627776) (hba:b≤a) (hl2:2≤len b) (hl:len b+1=len a) :
   Calls Tryz.prog 98 #[va,vb] w (CT' w a b):=by
 obtain ⟨A,ca,ea,hca,hca2,_,hp⟩:=id ha
 obtain ⟨A',cb,eb,hcb,hcb2,_,hp'⟩:=id hb
 obtain ⟨g,o,rfl,hg,hcell⟩:=hp (Ak.1 (by omega))
 obtain ⟨g',o',rfl,hg',hcell'⟩:=hp' (Ak.1 (by omega))
 subst ea
 subst eb
 have c1:=hcell (len a - 1) (by omega)
 have c2:=hcell (len a - 2) (by omega)
 have d2:=hcell' (len a - 2) (by omega)
 have hlz:=Cy (word a (len a - 1)) (word_lt _ _)
 obtain ⟨s,hsd⟩:=eX (64 - bitlen (word a (len a - 1)))
 rw [←hsd] at hlz
 have hs63:s≤63:=(F5' (Ak.1 (by omega)) hsd).1
 have hs64:(s:Int)≤63:=by omega
 have HL:=hid hl
 have e1:(((len b:Nat):Int)==((len a:Nat):Int))=false:=by rw [beq_eq_false_iff_ne];omega
 have e3:(((len b:Nat):Int)==((len a:Nat):Int) - 1)=true:=by rw [beq_iff_eq];omega
 have HS:=hid hsd
 clear hl hsd hcell hcell' hp hp'
 have hl1:2≤len a:=by have:=HL.out;omega
 go_enter Tryz.func98,Tryz.ntmps98
 go_wp2_with fail
 refine (hlz _).mono ?_
 rintro e w' ⟨rfl,rfl⟩
 have hx1:=word_lt a (len a - 1)
 have hx2:=word_lt a (len a - 2)
 have hy2:=word_lt b (len a - 2)
 have i1:(2:Int)≤((len a:Nat):Int):=by omega
 have TA:=hid (DN (a:=a) hl1 HS.out)
 have TB:=hid (IP (b:=b) (s:=s) (n:=len a) HL.out)
 generalize word a (len a - 1)=x1 at *
 generalize word a (len a - 2)=x2 at *
 generalize word b (len a - 2)=y2 at *
 have T1:=hid (CT (h:=x1) (l:=x2) hs63 TA.out.1 hx2)
 have T2:=hid (Hs' y2 s)
 have hlbi:((len a:Nat):Int) - 2<((len b:Nat):Int):=by have:=HL.out;omega
 go_wp2_with fail
 go_quiet (fail)
 rw [T1.out]
 generalize hT:(x1*W+x2) / 2^(64 - s)=T at *
 go_wp2_with fail
 rw [T2.out]
 generalize hN:y2 / 2^(64 - s)=N at *
 have hTa:T=a / (W^(len a - 2)*2^(64 - s)):=TA.out.2
 have hNb:N=b / (W^(len a - 2)*2^(64 - s)):=TB.out
 have HT:=hid hTa;have HN:=hid hNb
 have hNT:N≤T:=by rw [hTa,hNb];exact Nat.div_le_div_right hba
 have hTW:T<18446744073709551616:=by
   rw [←hT,Nat.div_lt_iff_lt_mul (Nat.two_pow_pos _)]
   have h1:=TA.out.1
   have h3:W=2^s*2^(64 - s):=BN' (by omega)
   have h4:x1+1≤2^(64 - s):=by
     apply Nat.lt_of_mul_lt_mul_right (a:=2^s)
     rw [Nat.mul_comm (2^(64 - s)),←h3];exact h1
   have h5:=mL W h4
   rw [Nat.mul_add,Nat.mul_one,Nat.mul_comm W x1] at h5
   have h6:W*2^(64 - s)=18446744073709551616*2^(64 - s):=rfl
   omega
 clear hT hN hTa hNb TA TB T1 T2 c1 c2 d2 hx1 hx2 hy2
 go_loopw [7,8,10,11] (fun tv nv av bv wr=>∃ top next a2 b2:Nat,tv=.int .u64 top∧nv=.int .u64 next∧av=.int .u64 a2∧bv=.int .u64 b2∧top<18446744073709551616∧next≤top∧a2<18446744073709551616∧b2<18446744073709551616∧Cy' w (w.heap.size+1) a b T N top next a2 b2 wr) (fun _ nv _ _ _=>(intOf nv).toNat)
 case atStart=>exact ⟨T,N,0,1,rfl,rfl,rfl,rfl,hTW,hNT,by omega,by omega,CI' _ _ _ _ _ _ hNT⟩
 case round =>
   obtain ⟨top,next,a2,b2,rfl,rfl,rfl,rfl,htop,hnt,ha2,hb2,a0,a1,b0,b1,ev,hbw,ha0',ha1',hb0',hb1',⟨r0,r1,r2,r3,r4,hres⟩,hst,HI,HO⟩:=hrel
   rw [Nat.add_sub_cancel] at hres
   have k0:wr.cell? ⟨w.heap.size+1,0,none⟩=some (.int .u64 (a0:Nat)):=cR wr _ 0 _ _ _ hst
   have k1:wr.cell? ⟨w.heap.size+1,1,none⟩=some (.int .u64 (a1:Nat)):=cR wr _ 1 _ _ _ hst
   have k2:wr.cell? ⟨w.heap.size+1,2,none⟩=some (.int .u64 (b0:Nat)):=cR wr _ 2 _ _ _ hst
   have k3:wr.cell? ⟨w.heap.size+1,3,none⟩=some (.int .u64 (b1:Nat)):=cR wr _ 3 _ _ _ hst
   have k4:wr.cell? ⟨w.heap.size+1,4,none⟩=some (.bool ev):=cR wr _ 4 _ _ _ hst
   have m0:wr.cell? ⟨w.heap.size,0,none⟩=some r0:=cR wr _ 0 _ _ _ hres
   have m1:wr.cell? ⟨w.heap.size,1,none⟩=some r1:=cR wr _ 1 _ _ _ hres
   have m2:wr.cell? ⟨w.heap.size,2,none⟩=some r2:=cR wr _ 2 _ _ _ hres
   have m3:wr.cell? ⟨w.heap.size,3,none⟩=some r3:=cR wr _ 3 _ _ _ hres
   have m4:wr.cell? ⟨w.heap.size,4,none⟩=some r4:=cR wr _ 4 _ _ _ hres
   have f0:=fun j=>fR wr _ j _ _ hst
   have f1:=fun j=>fR wr _ j _ _ hres
   have HH:=hid hst
   have HRS:=hid hres
   clear hst hres
   by_cases hc1:b2≤next
   · have hTs:=CS' HI.out
     have hb21:1≤b2:=HI.out.2.2.2.1
     have hbb:b1+b2<18446744073709551616:=by
       have g1:=Nat.le_mul_of_pos_right b2 (show 0<top by omega)
       have g2:=Nat.le_mul_of_pos_right b1 (show 0<next by omega)
       omega
     by_cases hc2:b1+b2+next≤top
     · have hn1:0<next:=by omega
       have hnew:=DA HI.out hn1
       have hT2:=CS' hnew
       have hord:=hnew.2.1
       obtain ⟨q,hq⟩:=eX (top / next)
       obtain ⟨r,hr⟩:=eX (top%next)
       rw [←hq,←hr] at hnew hT2
       rw [←hq] at hord
       have hqi:((top:Nat):Int) / ((next:Nat):Int)=((q:Nat):Int):=by rw [hq];exact (Int.natCast_ediv _ _).symm
       have hri:((top:Nat):Int)%((next:Nat):Int)=((r:Nat):Int):=by rw [hr];exact (Int.natCast_emod _ _).symm
       have hq64:q<18446744073709551616:=by rw [hq];exact Nat.lt_of_le_of_lt (Nat.div_le_self _ _) htop
       have hrn:r<next:=by rw [hr];exact Nat.mod_lt _ hn1
       obtain ⟨p,hp⟩:=eX (q*a2)
       obtain ⟨pb,hpb⟩:=eX (q*b2)
       have hpi:((q:Nat):Int)*((a2:Nat):Int)=((p:Nat):Int):=by rw [hp];exact (Int.natCast_mul _ _).symm
       have hpbi:((q:Nat):Int)*((b2:Nat):Int)=((pb:Nat):Int):=by rw [hpb];exact (Int.natCast_mul _ _).symm
       rw [←hp,←hpb] at hnew hord
       rw [←hpb] at hT2
       have hbn:b1+pb<18446744073709551616:=by
         have g1:=Nat.le_mul_of_pos_right (b1+pb) hn1
         omega
       have han:a1+p<18446744073709551616:=by omega
       have HNW:=hid hnew
       have hne0:((next:Nat):Int)≠0:=by omega
       have hc2i:((b1:Nat):Int)+((b2:Nat):Int)≤((top:Nat):Int) - ((next:Nat):Int):=by omega
       clear hTs hnew hT2 hq hr hp hpb
       have hp64:p<18446744073709551616:=by omega
       have hpb64:pb<18446744073709551616:=by omega
       go_wp2_with fail
       go_quiet (fail)
       go_wp2_with fail
       go_roundw
       case rel =>
         have hok:b1=0∨Ci' a b a1 a2 b1 b2 (!ev):=by
           rcases Nat.eq_zero_or_pos b1 with h0 | h0
           · exact .inl h0
           · exact .inr (E2' (K:=(W^(len a - 2)*2^(64 - s))) (la:=a%(W^(len a - 2)*2^(64 - s))) (lb:=b%(W^(len a - 2)*2^(64 - s))) HI.out (by rw [HT.out,Nat.mul_comm];exact (Nat.div_add_mod _ _).symm) (by rw [HN.out,Nat.mul_comm];exact (Nat.div_add_mod _ _).symm) (Nat.le_of_lt (Nat.mod_lt _ (Nat.mul_pos (AH' _) (Nat.two_pow_pos _)))) (Nat.le_of_lt (Nat.mod_lt _ (Nat.mul_pos (AH' _) (Nat.two_pow_pos _)))) hc1 hc2 h0)
         exact ⟨next,r,a1+p,b1+pb,rfl,by rw [hri],by go_num,by go_num,by omega,by omega,han,hbn,CU hbw HRS.out HH.out ha1' ha2 hb1' hb2 HNW.out hok⟩
       case measure=>simp only [intOf];rw [hri];simpa using hrn
     · have hc2i:¬ ((b1:Nat):Int)+((b2:Nat):Int)≤((top:Nat):Int) - ((next:Nat):Int):=by omega
       clear hTs
       go_wp2_with fail
       refine bP (v:=.agg #[.int .u64 (a0:Nat),.int .u64 (a1:Nat),.int .u64 (b0:Nat),.int .u64 (b1:Nat),.bool ev]) ?_ rfl ?_
       · simp [results,Tryz.results98,go_sem, *]
       · exact ⟨a0,a1,b0,b1,ev,rfl,ha0',ha1',hb0',hb1',HO.out,((((hbw.setCell (nL _) _).setCell (nL _) _).setCell (nL _) _).setCell (nL _) _).setCell (nL _) _⟩
   · go_wp2_with fail
     refine bP (v:=.agg #[.int .u64 (a0:Nat),.int .u64 (a1:Nat),.int .u64 (b0:Nat),.int .u64 (b1:Nat),.bool ev]) ?_ rfl ?_
     · simp [results,Tryz.results98,go_sem, *]
     · exact ⟨a0,a1,b0,b1,ev,rfl,ha0',ha1',hb0',hb1',HO.out,((((hbw.setCell (nL _) _).setCell (nL _) _).setCell (nL _) _).setCell (nL _) _).setCell (nL _) _⟩
theorem IP' {b s n:Nat} (hl:len b+1<n):0=b / (W^(n - 2)*2^(64 - s)):=by
 symm
 apply Nat.div_eq_of_lt
 refine ltl (Ao b) (nT (Nat.pow_le_pow_right W_pos (show len b≤n - 2 by omega)) (Nat.le_mul_of_pos_right _ (Nat.two_pow_pos _)))
theorem Fs' {w:World} {a b:Nat} {va vb:Value} (ha:Nt w va a) (hb:Nt w vb b) (hs:len a≤1099511627776) (hba:b≤a) (hl2:2≤len b) (hl:len b+1<len a) :
   Calls Tryz.prog 98 #[va,vb] w (CT' w a b):=by
 obtain ⟨A,ca,ea,hca,hca2,_,hp⟩:=id ha
 obtain ⟨A',cb,eb,hcb,hcb2,_,hp'⟩:=id hb
 obtain ⟨g,o,rfl,hg,hcell⟩:=hp (Ak.1 (by omega))
 obtain ⟨g',o',rfl,hg',hcell'⟩:=hp' (Ak.1 (by omega))
 subst ea
 subst eb
 have c1:=hcell (len a - 1) (by omega)
 have c2:=hcell (len a - 2) (by omega)
 have hlz:=Cy (word a (len a - 1)) (word_lt _ _)
 obtain ⟨s,hsd⟩:=eX (64 - bitlen (word a (len a - 1)))
 rw [←hsd] at hlz
 have hs63:s≤63:=(F5' (Ak.1 (by omega)) hsd).1
 have hs64:(s:Int)≤63:=by omega
 have HL:=hid hl
 have e1:(((len b:Nat):Int)==((len a:Nat):Int))=false:=by rw [beq_eq_false_iff_ne];omega
 have e3:(((len b:Nat):Int)==((len a:Nat):Int) - 1)=false:=by rw [beq_eq_false_iff_ne];omega
 have HS:=hid hsd
 clear hl hsd hcell hcell' hp hp'
 have hl1:2≤len a:=by have:=HL.out;omega
 go_enter Tryz.func98,Tryz.ntmps98
 go_wp2_with fail
 refine (hlz _).mono ?_
 rintro e w' ⟨rfl,rfl⟩
 have hx1:=word_lt a (len a - 1)
 have hx2:=word_lt a (len a - 2)
 have i1:(2:Int)≤((len a:Nat):Int):=by omega
 have TA:=hid (DN (a:=a) hl1 HS.out)
 have TB:=hid (IP' (b:=b) (s:=s) (n:=len a) HL.out)
 generalize word a (len a - 1)=x1 at *
 generalize word a (len a - 2)=x2 at *
 have T1:=hid (CT (h:=x1) (l:=x2) hs63 TA.out.1 hx2)
 go_wp2_with fail
 go_quiet (fail)
 rw [T1.out]
 generalize hT:(x1*W+x2) / 2^(64 - s)=T at *
 go_wp2_with fail
 obtain ⟨N,hN⟩:=eX (0:Nat)
 have hTa:T=a / (W^(len a - 2)*2^(64 - s)):=TA.out.2
 have hNb:N=b / (W^(len a - 2)*2^(64 - s)):=by rw [hN];exact TB.out
 have HT:=hid hTa;have HN:=hid hNb
 have hNT:N≤T:=by rw [hTa,hNb];exact Nat.div_le_div_right hba
 have hTW:T<18446744073709551616:=by
   rw [←hT,Nat.div_lt_iff_lt_mul (Nat.two_pow_pos _)]
   have h1:=TA.out.1
   have h3:W=2^s*2^(64 - s):=BN' (by omega)
   have h4:x1+1≤2^(64 - s):=by
     apply Nat.lt_of_mul_lt_mul_right (a:=2^s)
     rw [Nat.mul_comm (2^(64 - s)),←h3];exact h1
   have h5:=mL W h4
   rw [Nat.mul_add,Nat.mul_one,Nat.mul_comm W x1] at h5
   have h6:W*2^(64 - s)=18446744073709551616*2^(64 - s):=rfl
   omega
 have HN0:=hid hN
 clear hT hN hTa hNb TA TB T1 c1 c2 hx1 hx2
 go_loopw [7,8,10,11] (fun tv nv av bv wr=>∃ top next a2 b2:Nat,tv=.int .u64 top∧nv=.int .u64 next∧av=.int .u64 a2∧bv=.int .u64 b2∧top<18446744073709551616∧next≤top∧a2<18446744073709551616∧b2<18446744073709551616∧Cy' w (w.heap.size+1) a b T N top next a2 b2 wr) (fun _ nv _ _ _=>(intOf nv).toNat)
 case atStart=>exact ⟨T,N,0,1,rfl,by rw [HN0.out];rfl,rfl,rfl,hTW,hNT,by omega,by omega,CI' _ _ _ _ _ _ hNT⟩
 case round =>
   obtain ⟨top,next,a2,b2,rfl,rfl,rfl,rfl,htop,hnt,ha2,hb2,a0,a1,b0,b1,ev,hbw,ha0',ha1',hb0',hb1',⟨r0,r1,r2,r3,r4,hres⟩,hst,HI,HO⟩:=hrel
   rw [Nat.add_sub_cancel] at hres
   have k0:wr.cell? ⟨w.heap.size+1,0,none⟩=some (.int .u64 (a0:Nat)):=cR wr _ 0 _ _ _ hst
   have k1:wr.cell? ⟨w.heap.size+1,1,none⟩=some (.int .u64 (a1:Nat)):=cR wr _ 1 _ _ _ hst
   have k2:wr.cell? ⟨w.heap.size+1,2,none⟩=some (.int .u64 (b0:Nat)):=cR wr _ 2 _ _ _ hst
   have k3:wr.cell? ⟨w.heap.size+1,3,none⟩=some (.int .u64 (b1:Nat)):=cR wr _ 3 _ _ _ hst
   have k4:wr.cell? ⟨w.heap.size+1,4,none⟩=some (.bool ev):=cR wr _ 4 _ _ _ hst
   have m0:wr.cell? ⟨w.heap.size,0,none⟩=some r0:=cR wr _ 0 _ _ _ hres
   have m1:wr.cell? ⟨w.heap.size,1,none⟩=some r1:=cR wr _ 1 _ _ _ hres
   have m2:wr.cell? ⟨w.heap.size,2,none⟩=some r2:=cR wr _ 2 _ _ _ hres
   have m3:wr.cell? ⟨w.heap.size,3,none⟩=some r3:=cR wr _ 3 _ _ _ hres
   have m4:wr.cell? ⟨w.heap.size,4,none⟩=some r4:=cR wr _ 4 _ _ _ hres
   have f0:=fun j=>fR wr _ j _ _ hst
   have f1:=fun j=>fR wr _ j _ _ hres
   have HH:=hid hst
   have HRS:=hid hres
   clear hst hres
   by_cases hc1:b2≤next
   · have hTs:=CS' HI.out
     have hb21:1≤b2:=HI.out.2.2.2.1
     have hbb:b1+b2<18446744073709551616:=by
       have g1:=Nat.le_mul_of_pos_right b2 (show 0<top by omega)
       have g2:=Nat.le_mul_of_pos_right b1 (show 0<next by omega)
       omega
     by_cases hc2:b1+b2+next≤top
     · have hn1:0<next:=by omega
       have hnew:=DA HI.out hn1
       have hT2:=CS' hnew
       have hord:=hnew.2.1
       obtain ⟨q,hq⟩:=eX (top / next)
       obtain ⟨r,hr⟩:=eX (top%next)
       rw [←hq,←hr] at hnew hT2
       rw [←hq] at hord
       have hqi:((top:Nat):Int) / ((next:Nat):Int)=((q:Nat):Int):=by rw [hq];exact (Int.natCast_ediv _ _).symm
       have hri:((top:Nat):Int)%((next:Nat):Int)=((r:Nat):Int):=by rw [hr];exact (Int.natCast_emod _ _).symm
       have hq64:q<18446744073709551616:=by rw [hq];exact Nat.lt_of_le_of_lt (Nat.div_le_self _ _) htop
       have hrn:r<next:=by rw [hr];exact Nat.mod_lt _ hn1
       obtain ⟨p,hp⟩:=eX (q*a2)
       obtain ⟨pb,hpb⟩:=eX (q*b2)
       have hpi:((q:Nat):Int)*((a2:Nat):Int)=((p:Nat):Int):=by rw [hp];exact (Int.natCast_mul _ _).symm
       have hpbi:((q:Nat):Int)*((b2:Nat):Int)=((pb:Nat):Int):=by rw [hpb];exact (Int.natCast_mul _ _).symm
       rw [←hp,←hpb] at hnew hord
       rw [←hpb] at hT2
       have hbn:b1+pb<18446744073709551616:=by
         have g1:=Nat.le_mul_of_pos_right (b1+pb) hn1
         omega
       have han:a1+p<18446744073709551616:=by omega
       have HNW:=hid hnew
       have hne0:((next:Nat):Int)≠0:=by omega
       have hc2i:((b1:Nat):Int)+((b2:Nat):Int)≤((top:Nat):Int) - ((next:Nat):Int):=by omega
       clear hTs hnew hT2 hq hr hp hpb
       have hp64:p<18446744073709551616:=by omega
       have hpb64:pb<18446744073709551616:=by omega
       go_wp2_with fail
       go_quiet (fail)
       go_wp2_with fail
       go_roundw
       case rel =>
         have hok:b1=0∨Ci' a b a1 a2 b1 b2 (!ev):=by
           rcases Nat.eq_zero_or_pos b1 with h0 | h0
           · exact .inl h0
           · exact .inr (E2' (K:=(W^(len a - 2)*2^(64 - s))) (la:=a%(W^(len a - 2)*2^(64 - s))) (lb:=b%(W^(len a - 2)*2^(64 - s))) HI.out (by rw [HT.out,Nat.mul_comm];exact (Nat.div_add_mod _ _).symm) (by rw [HN.out,Nat.mul_comm];exact (Nat.div_add_mod _ _).symm) (Nat.le_of_lt (Nat.mod_lt _ (Nat.mul_pos (AH' _) (Nat.two_pow_pos _)))) (Nat.le_of_lt (Nat.mod_lt _ (Nat.mul_pos (AH' _) (Nat.two_pow_pos _)))) hc1 hc2 h0)
         exact ⟨next,r,a1+p,b1+pb,rfl,by rw [hri],by go_num,by go_num,by omega,by omega,han,hbn,CU hbw HRS.out HH.out ha1' ha2 hb1' hb2 HNW.out hok⟩
       case measure=>simp only [intOf];rw [hri];simpa using hrn
     · have hc2i:¬ ((b1:Nat):Int)+((b2:Nat):Int)≤((top:Nat):Int) - ((next:Nat):Int):=by omega
       clear hTs
       go_wp2_with fail
       refine bP (v:=.agg #[.int .u64 (a0:Nat),.int .u64 (a1:Nat),.int .u64 (b0:Nat),.int .u64 (b1:Nat),.bool ev]) ?_ rfl ?_
       · simp [results,Tryz.results98,go_sem, *]
       · exact ⟨a0,a1,b0,b1,ev,rfl,ha0',ha1',hb0',hb1',HO.out,((((hbw.setCell (nL _) _).setCell (nL _) _).setCell (nL _) _).setCell (nL _) _).setCell (nL _) _⟩
   · go_wp2_with fail
     refine bP (v:=.agg #[.int .u64 (a0:Nat),.int .u64 (a1:Nat),.int .u64 (b0:Nat),.int .u64 (b1:Nat),.bool ev]) ?_ rfl ?_
     · simp [results,Tryz.results98,go_sem, *]
     · exact ⟨a0,a1,b0,b1,ev,rfl,ha0',ha1',hb0',hb1',HO.out,((((hbw.setCell (nL _) _).setCell (nL _) _).setCell (nL _) _).setCell (nL _) _).setCell (nL _) _⟩
theorem Dr' {w:World} {a b:Nat} {va vb:Value} (ha:Nt w va a) (hb:Nt w vb b) (hs:len a≤1099511627776) (hba:b≤a) (hl2:2≤len b) :
   Calls Tryz.prog 98 #[va,vb] w (CT' w a b):=by
 have:=Am hba
 rcases Nat.lt_trichotomy (len b+1) (len a) with h | h | h
 · exact Fs' ha hb hs hba hl2 h
 · exact E4' ha hb hs hba hl2 h
 · exact E3' ha hb hs hba hl2 (by omega)
end Go.Proofs.YtflopjfnppolgaaGreatDoor
