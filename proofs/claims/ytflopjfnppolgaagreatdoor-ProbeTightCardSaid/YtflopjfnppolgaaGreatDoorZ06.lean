/-
  Contracts of the functions that the law calls, for every input (Divw Lib Shrink Guess Cmp Scaled Take Shr).
-/
import Derived.Test.YtflopjfnppolgaaGreatDoorZ00
import Derived.Test.YtflopjfnppolgaaGreatDoorZ04
import Derived.Test.YtflopjfnppolgaaGreatDoorZ05
import Derived.Deep.QuietTactic
import Derived.BigQuiet
import Derived.Deep.CutBlock
import Derived.Deep.DeepCutAuto
import Derived.Test.YtflopjfnppolgaaGreatDoorZ03
set_option linter.all false
set_option maxRecDepth 100000
set_option maxHeartbeats 40000000
namespace Go.Proofs.YtflopjfnppolgaaGreatDoor
open Lib (hid)
open Go.RowKit
open Vx
theorem Dq' {x:Nat} (hx:x<W):bitlen x≤64:=by
 unfold bitlen
 split
 · omega
 · rename_i h
   have:x.log2<64:=(Nat.log2_lt h).2 (by simpa [W] using hx)
   omega
theorem Cy (x:Nat) (hx:x<W) (w:World):Calls Tryz.prog 132 #[.int .u64 (x:Nat)] w (Bs w (.int .i64 (64 - bitlen x:Nat))):=by
 have hb:=Dq' hx
 have HC:=hid (Da x hx)
 go_enter Tryz.func132,Tryz.ntmps132
 go_wp2_with fail
 refine (HC.out _).mono ?_
 rintro e w1 ⟨rfl,rfl⟩
 go_wp2_with fail
 go_returns
 refine Bh' ?_
 omega
theorem Cb' {n:Nat} (h:n<18446744073709551616):IntKind.u64.wrap (n:Nat)=((n:Nat):Int):=by
 rw [IntKind.wrap_u64];omega
theorem FI' (n:Int):IntKind.u64.wrap n=n%18446744073709551616:=by rw [IntKind.wrap_u64]
theorem FJ (n:Nat):bits .and .u64 ((n:Nat):Int) 4294967295=((n%4294967296:Nat):Int):=by
 have h1:(BitVec.ofInt 64 4294967295).toNat=2^32 - 1:=by decide
 have key:(BitVec.ofInt 64 ((n:Nat):Int) &&& BitVec.ofInt 64 4294967295).toNat=(((n:Nat):Int)%((2^64:Nat):Int)).toNat%2^32:=by
   rw [BitVec.toNat_and,BitVec.toNat_ofInt,h1,Nat.and_two_pow_sub_one_eq_mod]
 show IntKind.u64.wrap ((BitVec.ofInt 64 ((n:Nat):Int) &&& BitVec.ofInt 64 4294967295).toNat:Nat)=_
 rw [key,IntKind.wrap_u64]
 omega
theorem FY' {h l s:Nat} (hs:s≤63) (hh:h*2^s<W) (hl:l<W) :
   bits .or .u64 (IntKind.u64.wrap (((h:Nat):Int)*2^s)) (((l:Nat):Int) / 2^(64 - s))=(((h*W+l) / 2^(64 - s):Nat):Int):=by
 have e1:IntKind.u64.wrap (((h:Nat):Int)*2^s)=((h*2^s:Nat):Int):=by
   have hh':h*2^s<18446744073709551616:=hh
   rw [Bi,←Int.natCast_mul,IntKind.wrap_u64];omega
 have e2:((l:Nat):Int) / 2^(64 - s)=((l / 2^(64 - s):Nat):Int):=by rw [Bi,←Int.natCast_ediv]
 have hd:l / 2^(64 - s)<2^s:=by
   rw [Nat.div_lt_iff_lt_mul (Nat.two_pow_pos _),←BN' (by omega)];exact hl
 rw [e1,e2,bits_or_u64_nat _ _ hh (Nat.lt_of_le_of_lt (Nat.div_le_self _ _) hl)]
 congr 1
 rw [Nat.mul_comm h,←Nat.two_pow_add_eq_or_of_lt hd,BN' (r:=s) (by omega),Nat.mul_comm (2^s) (2^(64 - s)),Nat.mul_left_comm,Nat.mul_comm h (2^s)]
 rw [Nat.mul_add_div (Nat.two_pow_pos _)]
theorem GH' {y:Nat} (h0:0<y) (hy:y<W):y*2^(64 - bitlen y)<18446744073709551616∧9223372036854775808≤y*2^(64 - bitlen y)∧64 - bitlen y≤63:=by
 have hb:=Dq' hy
 have e:bitlen y=y.log2+1:=by unfold bitlen;rw [if_neg (by omega)]
 have h1:y<2^bitlen y:=by rw [e];exact Nat.lt_log2_self
 have h2:2^(bitlen y - 1)≤y:=by rw [e];exact Nat.log2_self_le (by omega)
 generalize bitlen y=t at *
 have hp:=Nat.two_pow_pos (64 - t)
 refine ⟨?_,?_,by omega⟩
 · have:=Nat.mul_lt_mul_of_pos_right h1 hp
   rw [←Nat.pow_add,show t+(64 - t)=64 by omega,show (2:Nat)^64=18446744073709551616 by decide] at this
   exact this
 · have:=Nat.mul_le_mul_right (2^(64 - t)) h2
   rw [←Nat.pow_add,show t - 1+(64 - t)=63 by omega,show (2:Nat)^63=9223372036854775808 by decide] at this
   exact this
theorem DK {a b:Nat} (hb:b<4294967296):((a*4294967296+b:Nat):Int) / 4294967296=((a:Nat):Int)∧(a*4294967296+b)%4294967296=b:=by
 constructor <;> omega
def Ig' (Q:Nat) (w:World) (c:Value) (wx:World):Prop:=c=.int .u64 (Q:Nat)∧wx=w
theorem Dl (a b:Nat) (ha:a<18446744073709551616):IntKind.u64.wrap (((a:Nat):Int) / ((b:Nat):Int))=((a / b:Nat):Int):=by
 rw [←Int.natCast_ediv,Cb' (Nat.lt_of_le_of_lt (Nat.div_le_self _ _) ha)]
theorem EW {a b:Nat} (ha:a<18446744073709551616):IntKind.u64.wrap (((a:Nat):Int) - IntKind.u64.wrap (IntKind.u64.wrap (((a:Nat):Int) / ((b:Nat):Int))*((b:Nat):Int)))=((a%b:Nat):Int):=by
 have h1:=Nat.div_mul_le_self a b
 have h2:=Nat.div_add_mod a b
 rw [Nat.mul_comm] at h2
 rw [Dl a b ha,←Int.natCast_mul,Cb' (by omega)]
 generalize a / b*b=p at h1 h2 ⊢
 generalize a%b=r at h2 ⊢
 rw [show ((a:Nat):Int) - ((p:Nat):Int)=((r:Nat):Int) by omega,Cb' (by omega)]
theorem Ep' {Y Q u a:Nat} (hQ:Q=(u*4294967296+a) / Y) (hY:0<Y) (hY2:Y<18446744073709551616) :
   IntKind.u64.wrap (IntKind.u64.wrap (IntKind.u64.wrap (((u:Nat):Int)*4294967296)+((a:Nat):Int)) - IntKind.u64.wrap (((Q:Nat):Int)*((Y:Nat):Int)))=(((u*4294967296+a)%Y:Nat):Int):=by
 have h2:=Nat.div_add_mod (u*4294967296+a) Y
 have h3:(u*4294967296+a)%Y<Y:=Nat.mod_lt _ hY
 rw [←hQ,Nat.mul_comm] at h2
 rw [←Int.natCast_mul]
 generalize Q*Y=p at h2 ⊢
 generalize (u*4294967296+a)%Y=r at h2 h3 ⊢
 simp only [FI']
 omega
def D8' (Q u y1:Nat) (qv rv:Value):Prop :=
  ∃ q r:Nat,qv=.int .u64 (q:Nat)∧rv=.int .u64 (r:Nat)∧q≤4294967297∧r<4294967296∧Q≤q∧Hid (q*y1+r=u)
theorem EW' {u u1 y1 y0:Nat} (b0:y0<4294967296) (b1:2147483648≤y1) (b2:y1<4294967296) (bU:u<y1*4294967296+y0) (c1:u1<4294967296) :
   D8' ((u*4294967296+u1) / (y1*4294967296+y0)) u y1 (.int .u64 ((u / y1:Nat):Int)) (.int .u64 ((u%y1:Nat):Int)) :=
 ⟨_,_,rfl,rfl,FY b1 b0 bU,Nat.lt_trans (Nat.mod_lt _ (by omega)) b2,FX' (by omega) c1,by show _=_;rw [Nat.mul_comm];exact Nat.div_add_mod _ _⟩
theorem Eq' {Q u u1 y1 y0 q r:Nat} (hQ:Q=(u*4294967296+u1) / (y1*4294967296+y0)) (hy:0<y1) (bU:u<y1*4294967296+y0) (c1:u1<4294967296) (hge:Q≤q)
   (he:q*y1+r=u) (h:4294967296≤q∨r*4294967296+u1<q*y0):0<q∧Q≤q - 1∧(q - 1)*y1+(r+y1)=u:=by
 rcases h with h | h
 · have:=D7' (H:=4294967296) bU c1
   rw [←hQ] at this
   refine ⟨by omega,by omega,?_⟩
   obtain ⟨s,rfl⟩:∃ s,q=s+1:=⟨q - 1,by omega⟩
   rw [Nat.add_mul] at he
   rw [Nat.add_sub_cancel]
   omega
 · rw [hQ]
   exact Im hy (by omega) he h
theorem CR' {Q u u1 y1 y0 q r:Nat} (hQ:Q=(u*4294967296+u1) / (y1*4294967296+y0)) (hy:0<y1) (hge:Q≤q) (he:q*y1+r=u) (h:q*y0≤r*4294967296+u1):q=Q:=by
 rw [hQ] at hge ⊢
 exact GE' hy (by omega) he hge h
theorem GI (h l y:Nat) (hh:h<y) (hl:l<18446744073709551616) (hy:y<18446744073709551616) (h0:0<h) (w:World) :
   Calls Tryz.prog 139 #[.int .u64 (h:Nat),.int .u64 (l:Nat),.int .u64 (y:Nat)] w (Co' w (.tuple #[.int .u64 ((h*W+l) / y:Nat),.int .u64 ((h*W+l)%y:Nat)])):=by
 have hlz:=Cy y hy
 obtain ⟨s,hsd⟩:=eX (64 - bitlen y)
 rw [←hsd] at hlz
 have t1:(((y:Nat):Int)==0)=false:=by rw [beq_eq_false_iff_ne];omega
 have t2:(((h:Nat):Int)==0)=false:=by rw [beq_eq_false_iff_ne];omega
 have hN:=GH' (show 0<y by omega) hy
 rw [←hsd] at hN
 obtain ⟨hN1,hN2,hN3⟩:=hN
 have hs64:(s:Int)≤63:=by omega
 obtain ⟨y1,y0,u,u1,u0,eY,b0,b1,b2,eU,bU,eV,c1,c0,eA⟩:=GF' hh hl hN1 hN2 hN3
 have HY:Hid (IntKind.u64.wrap (((y:Nat):Int)*2^s)=((y1*4294967296+y0:Nat):Int)):=by
   show _=_
   rw [Bi,←Int.natCast_mul,eY,Cb' (by omega)]
 have HV:Hid (IntKind.u64.wrap (((l:Nat):Int)*2^s)=((u1*4294967296+u0:Nat):Int)):=by
   show _=_
   rw [Bi,←Int.natCast_mul,FI',←eV,Int.natCast_emod];rfl
 have hhs:h*2^s<W:=by
   have:=Nat.mul_le_mul_right (2^s) (Nat.le_of_lt hh)
   have:=BG'
   omega
 have HU:=hid (FY' hN3 hhs hl)
 have eU':(h*W+l) / 2^(64 - s)=u:=eU
 rw [eU'] at HU
 have HA:=hid eA
 have HYY:=hid eY
 have HQ:=hid (GF (a:=h*W+l) (y:=y) (Nat.two_pow_pos s))
 clear eU eU' eV eA eY hhs hsd hN1 hN2
 go_enter Tryz.func139,Tryz.ntmps139
 go_upto_region 15 with (go_at_call 132;refine (hlz _).mono ?_;rintro e w1 ⟨rfl,rfl⟩)
 rw [HU.out,HY.out,HV.out,FJ,FJ,(DK b0).1,(DK b0).2,(DK c0).1,(DK c0).2]
 clear HU HY HV
 obtain ⟨Y,hYd⟩:=eX (y1*4294967296+y0)
 obtain ⟨V,hVd⟩:=eX (u1*4294967296+u0)
 have HBU:=hid bU
 have hyY:Y<18446744073709551616:=by omega
 have huY:u<Y:=by omega
 rw [←hYd,←hVd]
 have HYd:=hid hYd;have HVd:=hid hVd
 have bu64:u<18446744073709551616:=by omega
 have D1:=hid (Dl u y1 bu64)
 have D2:=hid (EW (b:=y1) bu64)
 go_upto_block 0 with fail
 rw [D2.out,D1.out]
 have hst:=EW' b0 b1 b2 bU c1
 clear hYd hVd bU
 have hQ1:Hid ((u*4294967296+u1) / (y1*4294967296+y0)<4294967296):=D7' HBU.out c1
 obtain ⟨Q,hQ⟩:=eX ((u*4294967296+u1) / (y1*4294967296+y0))
 rw [←hQ] at hst hQ1
 have HQ1:=hid hQ
 clear hQ
 have hQlt:Q<4294967296:=hQ1.out
 go_cut [15] (Ig' Q w)
 case first =>
   go_wp2_with fail
   go_loop [15,16] (D8' Q u y1) (fun qv _=>(intOf qv).toNat)
   case atStart=>exact hst
   case round =>
     obtain ⟨q,r,rfl,rfl,hq,hr,hQq,HE⟩:=hrel
     have hp:q*y0≤18446744073709551615:=nT (Nat.mul_le_mul hq (show y0≤4294967295 by omega)) (by decide)
     obtain ⟨p,hpe⟩:=eX (q*y0)
     have HP:=hid hpe
     have hpc:((q:Nat):Int)*((y0:Nat):Int)=((p:Nat):Int):=by rw [hpe,Int.natCast_mul]
     rw [←hpe] at hp
     clear hpe
     have hr1:=hid (show ((r:Nat):Int)<4294967296 by omega)
     have hp1:=hid (show ((p:Nat):Int)≤18446744073709551615 by omega)
     have hp2:=hp1.out
     have hr2:=hr1.out
     have hy2:=hid (show ((y1:Nat):Int)<4294967296 by omega)
     have hy3:=hy2.out
     have hq2:=hid (show ((q:Nat):Int)≤4294967297 by omega)
     have hq3:=hq2.out
     by_cases hA:4294967296≤q∨r*4294967296+u1<q*y0
     · have HM:=hid (Eq' HQ1.out (by omega) HBU.out c1 hQq HE.out hA)
       have hq0:0<q:=HM.out.1
       have HP':=hid (show 4294967296≤q∨4294967296*((r:Nat):Int)+((u1:Nat):Int)<((p:Nat):Int) by have:=HP.out;omega)
       have HN:=hid (show 4294967296≤r+y1→q - 1=Q by
         intro h
         refine CR' (r:=r+y1) HQ1.out (by omega) HM.out.2.1 HM.out.2.2 ?_
         have h1:(q - 1)*y0≤4294967296*4294967296:=Nat.mul_le_mul (by omega) (Nat.le_of_lt b0)
         omega)
       clear hA hp hQq hq hr
       by_cases hB:4294967296≤r+y1
       · have hB1:decide ((4294967296:Int)≤((r:Nat):Int)+((y1:Nat):Int))=true:=dT_ (by omega)
         have HD:=hid (HN.out hB)
         have hq9:((q:Nat):Int) - 1=((q - 1:Nat):Int):=by omega
         by_cases hC:4294967296≤q
         · have hC1:decide ((4294967296:Int)≤((q:Nat):Int))=true:=dT_ (by omega)
           clear hB hC
           go_wp2_with fail
           go_meet
           exact ⟨by rw [←HD.out],rfl⟩
         · have hC1:decide ((4294967296:Int)≤((q:Nat):Int))=false:=dF_ (by omega)
           have hC2:decide (4294967296*((r:Nat):Int)+((u1:Nat):Int)<((p:Nat):Int))=true:=dT_ (by have:=HP'.out;omega)
           clear hB hC
           go_wp2_with fail
           go_meet
           exact ⟨by rw [←HD.out],rfl⟩
       · have hB1:decide ((4294967296:Int)≤((r:Nat):Int)+((y1:Nat):Int))=false:=dF_ (by omega)
         have HB:=hid hB
         have hq9:((q:Nat):Int) - 1=((q - 1:Nat):Int):=by omega
         by_cases hC:4294967296≤q
         · have hC1:decide ((4294967296:Int)≤((q:Nat):Int))=true:=dT_ (by omega)
           clear hB hC
           go_wp2_with fail
           go_round
           case rel=>exact ⟨q - 1,r+y1,rfl,by go_num,by have:=hq2.out;omega,by have:=HB.out;omega,HM.out.2.1,HM.out.2.2⟩
           case measure=>simp [intOf];omega
         · have hC1:decide ((4294967296:Int)≤((q:Nat):Int))=false:=dF_ (by omega)
           have hC2:decide (4294967296*((r:Nat):Int)+((u1:Nat):Int)<((p:Nat):Int))=true:=dT_ (by have:=HP'.out;omega)
           clear hB hC
           go_wp2_with fail
           go_round
           case rel=>exact ⟨q - 1,r+y1,rfl,by go_num,by have:=hq2.out;omega,by have:=HB.out;omega,HM.out.2.1,HM.out.2.2⟩
           case measure=>simp [intOf];omega
     · have HD:=hid (CR' HQ1.out (by omega) hQq HE.out (by omega))
       have hA5:decide ((4294967296:Int)≤((q:Nat):Int))=false:=dF_ (by omega)
       have hA6:decide (4294967296*((r:Nat):Int)+((u1:Nat):Int)<((p:Nat):Int))=false:=dF_ (by have:=HP.out;omega)
       clear hA hp hq hr
       go_wp2_with fail
       go_meet
       exact ⟨by rw [HD.out],rfl⟩
 case rest =>
   obtain ⟨rfl,rfl⟩:=hcut
   have HR:=hid (Ep' (Y:=Y) (Q:=Q) (u:=u) (a:=u1) (by rw [HQ1.out,HYd.out]) (by omega) hyY)
   obtain ⟨R,hR⟩:=eX ((u*4294967296+u1)%Y)
   rw [←hR] at HR
   have hRY:R<Y:=by rw [hR];exact Nat.mod_lt _ (by omega)
   have HRR:=hid hR
   clear hR hst D1 D2
   go_upto_region 22 with fail
   rw [HR.out]
   clear HR
   have bR:R<18446744073709551616:=by omega
   have D1:=hid (Dl R y1 bR)
   have D2:=hid (EW (b:=y1) bR)
   have HBR:Hid (R<y1*4294967296+y0):=by show _<_;rw [←HYd.out];exact hRY
   go_upto_block 2 with fail
   rw [D2.out,D1.out]
   have hst2:=EW' b0 b1 b2 HBR.out c0
   have hP1:Hid ((R*4294967296+u0) / (y1*4294967296+y0)<4294967296):=D7' HBR.out c0
   obtain ⟨Q2,hP⟩:=eX ((R*4294967296+u0) / (y1*4294967296+y0))
   rw [←hP] at hst2 hP1
   have HQ2:=hid hP
   clear hP
   have hPlt:Q2<4294967296:=hP1.out
   go_cut [18] (Ig' Q2 wc)
   case first =>
     go_wp2_with fail
     go_loop [18,16] (D8' Q2 R y1) (fun qv _=>(intOf qv).toNat)
     case atStart=>exact hst2
     case round =>
       obtain ⟨q,r,rfl,rfl,hq,hr,hQq,HE⟩:=hrel
       have hp:q*y0≤18446744073709551615:=nT (Nat.mul_le_mul hq (show y0≤4294967295 by omega)) (by decide)
       obtain ⟨p,hpe⟩:=eX (q*y0)
       have HP:=hid hpe
       have hpc:((q:Nat):Int)*((y0:Nat):Int)=((p:Nat):Int):=by rw [hpe,Int.natCast_mul]
       rw [←hpe] at hp
       clear hpe
       have hr1:=hid (show ((r:Nat):Int)<4294967296 by omega)
       have hp1:=hid (show ((p:Nat):Int)≤18446744073709551615 by omega)
       have hp2:=hp1.out
       have hr2:=hr1.out
       have hy2:=hid (show ((y1:Nat):Int)<4294967296 by omega)
       have hy3:=hy2.out
       have hq2:=hid (show ((q:Nat):Int)≤4294967297 by omega)
       have hq3:=hq2.out
       by_cases hA:4294967296≤q∨r*4294967296+u0<q*y0
       · have HM:=hid (Eq' HQ2.out (by omega) HBR.out c0 hQq HE.out hA)
         have hq0:0<q:=HM.out.1
         have HP':=hid (show 4294967296≤q∨4294967296*((r:Nat):Int)+((u0:Nat):Int)<((p:Nat):Int) by have:=HP.out;omega)
         have HN:=hid (show 4294967296≤r+y1→q - 1=Q2 by
           intro h
           refine CR' (r:=r+y1) HQ2.out (by omega) HM.out.2.1 HM.out.2.2 ?_
           have h1:(q - 1)*y0≤4294967296*4294967296:=Nat.mul_le_mul (by omega) (Nat.le_of_lt b0)
           omega)
         clear hA hp hQq hq hr
         by_cases hB:4294967296≤r+y1
         · have hB1:decide ((4294967296:Int)≤((r:Nat):Int)+((y1:Nat):Int))=true:=dT_ (by omega)
           have HD:=hid (HN.out hB)
           have hq9:((q:Nat):Int) - 1=((q - 1:Nat):Int):=by omega
           by_cases hC:4294967296≤q
           · have hC1:decide ((4294967296:Int)≤((q:Nat):Int))=true:=dT_ (by omega)
             clear hB hC
             go_wp2_with fail
             go_meet
             exact ⟨by rw [←HD.out],rfl⟩
           · have hC1:decide ((4294967296:Int)≤((q:Nat):Int))=false:=dF_ (by omega)
             have hC2:decide (4294967296*((r:Nat):Int)+((u0:Nat):Int)<((p:Nat):Int))=true:=dT_ (by have:=HP'.out;omega)
             clear hB hC
             go_wp2_with fail
             go_meet
             exact ⟨by rw [←HD.out],rfl⟩
         · have hB1:decide ((4294967296:Int)≤((r:Nat):Int)+((y1:Nat):Int))=false:=dF_ (by omega)
           have HB:=hid hB
           have hq9:((q:Nat):Int) - 1=((q - 1:Nat):Int):=by omega
           by_cases hC:4294967296≤q
           · have hC1:decide ((4294967296:Int)≤((q:Nat):Int))=true:=dT_ (by omega)
             clear hB hC
             go_wp2_with fail
             go_round
             case rel=>exact ⟨q - 1,r+y1,rfl,by go_num,by have:=hq2.out;omega,by have:=HB.out;omega,HM.out.2.1,HM.out.2.2⟩
             case measure=>simp [intOf];omega
           · have hC1:decide ((4294967296:Int)≤((q:Nat):Int))=false:=dF_ (by omega)
             have hC2:decide (4294967296*((r:Nat):Int)+((u0:Nat):Int)<((p:Nat):Int))=true:=dT_ (by have:=HP'.out;omega)
             clear hB hC
             go_wp2_with fail
             go_round
             case rel=>exact ⟨q - 1,r+y1,rfl,by go_num,by have:=hq2.out;omega,by have:=HB.out;omega,HM.out.2.1,HM.out.2.2⟩
             case measure=>simp [intOf];omega
       · have HD:=hid (CR' HQ2.out (by omega) hQq HE.out (by omega))
         have hA5:decide ((4294967296:Int)≤((q:Nat):Int))=false:=dF_ (by omega)
         have hA6:decide (4294967296*((r:Nat):Int)+((u0:Nat):Int)<((p:Nat):Int))=false:=dF_ (by have:=HP.out;omega)
         clear hA hp hq hr
         go_wp2_with fail
         go_meet
         exact ⟨by rw [HD.out],rfl⟩
   case rest =>
     obtain ⟨rfl,rfl⟩:=hcut
     have HF:Hid (Q*4294967296+Q2=(h*W+l) / y∧(R*4294967296+u0)%Y / 2^s=(h*W+l)%y):=by
       obtain ⟨e1,e2⟩:=HQ.out
       have eA:(h*W+l)*2^s=u*4294967296*4294967296+u1*4294967296+u0:=HA.out
       rw [eA,HYY.out,←HYd.out] at e1 e2
       obtain ⟨e3,e4⟩:=Im' (H:=4294967296) (u:=u) (u1:=u1) (u0:=u0) (y:=Y) (by omega)
       refine ⟨?_,?_⟩
       · rw [←e1,e3,HQ1.out,HQ2.out,HRR.out,←HYd.out]
       · rw [←e2,e4,HRR.out]
     have HX:=hid (Ep' (Y:=Y) (Q:=Q2) (u:=R) (a:=u0) (by rw [HQ2.out,HYd.out]) (by omega) hyY)
     go_wp2_with fail
     go_ret2
     refine ⟨?_,0,rfl⟩
     rw [HX.out,←HF.out.1,←HF.out.2,Bi,←Int.natCast_ediv]
     rfl
theorem GI' (l y:Nat) (h0:0<y) (hl:l<18446744073709551616) (w:World) :
   Calls Tryz.prog 139 #[.int .u64 0,.int .u64 (l:Nat),.int .u64 (y:Nat)] w (Co' w (.tuple #[.int .u64 (l / y:Nat),.int .u64 (l%y:Nat)])):=by
 have t1:(((y:Nat):Int)==0)=false:=by rw [beq_eq_false_iff_ne];omega
 have t3:decide (((y:Nat):Int)≤0)=false:=dF_ (by omega)
 go_enter Tryz.func139,Tryz.ntmps139
 go_wp2_with fail
 go_quiet (fail)
 go_wp2_with fail
 go_ret2
 refine ⟨?_,_,rfl⟩
 show Ending.returned (.tuple #[.int .u64 (IntKind.u64.wrap (((l:Nat):Int) / ((y:Nat):Int))),.int .u64 (((l:Nat):Int)%((y:Nat):Int))])=_
 rw [Dl l y hl,←Int.natCast_emod]
theorem Er (h l y:Nat) (hh:h<y) (hl:l<W) (hy:y<W) (w:World) :
   Calls Tryz.prog 139 #[.int .u64 (h:Nat),.int .u64 (l:Nat),.int .u64 (y:Nat)] w (Co' w (.tuple #[.int .u64 ((h*W+l) / y:Nat),.int .u64 ((h*W+l)%y:Nat)])):=by
 rcases Nat.eq_zero_or_pos h with h0 | h0
 · subst h0
   rw [Nat.zero_mul,Nat.zero_add]
   exact GI' l y hh hl w
 · exact GI h l y hh hl hy h0 w
theorem Ho (x:Nat) (hx:x<W) (w:World):Calls Tryz.prog 118 #[.int .u64 (x:Nat)] w (Bs w (.int .i64 (bitlen x:Nat))):=by
 have HC:=hid (Da x hx)
 go_enter Tryz.func118,Tryz.ntmps118
 go_wp2_with fail
 refine (HC.out _).mono ?_
 rintro e w1 ⟨rfl,rfl⟩
 go_wp2_with fail
 go_returns
 exact Bh' rfl
def GJ (w:World) (g:Nat) (cs:List Nat) (o n y k rest:Nat) (wr:World):Prop :=
  ∃ cs',Az g w wr∧AK' wr g cs'∧Hid (cs'.length=cs.length)∧Hid (∀ i,i<o+k∨o+n≤i→cs'.getD i 0=cs.getD i 0) ∧
    Hid (seg cs' (o+k) (n - k)=seg cs (o+k) (n - k) / y)∧Hid (rest=seg cs (o+k) (n - k)%y)
theorem Dz (cs:List Nat) (o n:Nat) (h:0<n):seg cs o n=cs.getD o 0+W*seg cs (o+1) (n - 1):=by
 obtain ⟨m,rfl⟩:∃ m,n=1+m:=⟨n - 1,by omega⟩
 rw [AB',Nat.add_sub_cancel_left]
 simp [seg]
theorem FZ {d H y:Nat} (hy:0<y):(d+W*H) / y=(H%y*W+d) / y+W*(H / y)∧(d+W*H)%y=(H%y*W+d)%y:=by
 have e:d+W*H=(H%y*W+d)+y*(W*(H / y)):=by
   have:=Nat.mod_add_div H y
   have h2:W*H=W*(H%y)+W*(y*(H / y)):=by rw [←Nat.mul_add,this]
   rw [h2,Nat.mul_comm W (H%y),Nat.mul_left_comm];omega
 rw [e,Nat.add_mul_div_left _ _ hy,Nat.add_mul_mod_self_left]
 exact ⟨rfl,rfl⟩
theorem DK' {w:World} {g o n c y:Nat} {cs:List Nat} (hr:AK' w g cs) (hon:o+n≤cs.length) (hn:n≤1125899906842624) (hy0:0<y) (hy:y<W) :
   Calls Tryz.prog 114 #[.slice (some ⟨g,o,none⟩) n c,.int .u64 (y:Nat)] w (CL w g cs o n fun z k=>z=seg cs o n / y∧k=seg cs o n%y):=by
 go_enter Tryz.func114,Tryz.ntmps114
 go_wp2_with fail
 go_loopw [5,6] (fun rv i wr=>∃ k rest:Nat,k≤n∧i=.int .i64 (downI k)∧rv=.int .u64 rest∧rest<y∧GJ w g cs o n y k rest wr) (fun _ i _=>(intOf i+1).toNat)
 case atStart =>
   refine ⟨n,0,nL _,congrArg (Value.int .i64) (AM' n).symm,rfl,hy0,cs,Az.refl _ _,hr,rfl,fun _ _=>rfl,?_,?_⟩ <;> show _=_ <;> simp [seg]
 case round =>
   obtain ⟨k,rest,hk,rfl,rfl,hrest,cs1,hw1,hr1,HL,HS,HZ,HR⟩:=hrel
   match k,hk,HS,HZ,HR with
   | 0,hk,HS,HZ,HR =>
     simp only [downI]
     go_wp2_with fail
     go_ret
     refine ⟨cs1,rest,rfl,Nat.lt_trans hrest hy,hw1,hr1,HL.out,fun i hi=>HS.out i (by omega),?_,?_⟩
     · have:=HZ.out;simpa using this
     · have:=HR.out;simpa using this
   | p+1,hk,HS,HZ,HR =>
     simp only [downI]
     have h2:=hr1.cell (i:=o+p) (by rw [HL.out];omega)
     have h3:=hr1.frozen (o+p)
     have hd:=hr1.getD_lt (o+p)
     rw [HS.out _ (by omega)] at h2 hd
     generalize hdd:cs.getD (o+p) 0=d at h2 hd
     have HD:=hid hdd
     have hpn:(p:Int)<(n:Int):=by omega
     clear hdd
     have hdiv:=Er rest d y hrest hd hy
     go_wp2_with fail
     refine (hdiv _).mono ?_
     rintro e w' ⟨rfl,nq,rfl⟩
     have hw1:Az g w (wr.drewN nq):=hw1.trans ⟨rfl,rfl,rfl,nL _,fun _ _ _=>rfl⟩
     have hr1:AK' (wr.drewN nq) g cs1:=hr1
     have h2:(wr.drewN nq).cell? ⟨g,o+p,none⟩=some (.int .u64 (d:Nat)):=h2
     have h3:(wr.drewN nq).frozen? ⟨g,o+p,none⟩=false:=h3
     generalize wr.drewN nq=wq at hw1 hr1 h2 h3 ⊢
     go_wp2_with fail
     go_roundw
     case rel =>
       have hq:(rest*W+d) / y<W:=by
         rw [Nat.div_lt_iff_lt_mul hy0]
         have:(rest+1)*W≤y*W:=Nat.mul_le_mul_right _ hrest
         rw [Nat.add_mul] at this
         rw [Nat.mul_comm W]
         omega
       have e1:=Dz cs (o+p) (n - p) (by omega)
       rw [HD.out,Nat.add_assoc o p 1,show n - p - 1=n - (p+1) by omega] at e1
       have e2:=FZ (d:=d) (H:=seg cs (o+(p+1)) (n - (p+1))) hy0
       rw [←e1,←HR.out] at e2
       refine ⟨p,(rest*W+d)%y,by omega,congrArg (Value.int .i64) (AM' p).symm,rfl,Nat.mod_lt _ hy0,cs1.set (o+p) ((rest*W+d) / y),hw1.trans (Az.set _ _ _ _),hr1.set hq,by show _=_;rw [List.length_set,HL.out],fun i hi=>?_,?_,e2.2.symm⟩
       · rw [getD_set,if_neg (by omega)];exact HS.out i (by omega)
       · have e3:=Dz (cs1.set (o+p) ((rest*W+d) / y)) (o+p) (n - p) (by omega)
         have e4:seg (cs1.set (o+p) ((rest*W+d) / y)) (o+p+1) (n - p - 1)=seg cs1 (o+p+1) (n - p - 1):=BC' (by omega)
         rw [getD_set,if_pos ⟨rfl,by rw [HL.out];omega⟩,e4,Nat.add_assoc o p 1,show n - p - 1=n - (p+1) by omega,HZ.out] at e3
         show _=_
         rw [e3,e2.1]
     case measure=>simp [intOf]
theorem FZ' {w:World} {y:Nat} (_hy0:0<y):Calls Tryz.prog 114 #[.slice none 0 0,.int .u64 (y:Nat)] w (Bs w (.int .u64 0)):=by
 go_enter Tryz.func114,Tryz.ntmps114
 go_wp2_with fail
 refine wp_loop_rounds 1 ?_
 rw [rounds_succ]
 go_wp2_with fail
 go_ret
 exact ⟨rfl,rfl⟩
def F0' (w:World) (x k:Nat) (e:Ending) (w':World):Prop:=∃ v,e=.returned (.tuple #[v,.int .u64 (k:Nat)])∧Nt w' v x∧Below w.heap.size w w'
theorem Cg {w:World} {a y:Nat} {va:Value} (ha:Nt w va a) (hs:len a≤17592186044416) (hy0:0<y) (hy:y<W) :
   Calls Tryz.prog 101 #[va,.int .u64 (y:Nat)] w (F0' w (a / y) (a%y)):=by
 go_enter Tryz.func101,Tryz.ntmps101
 go_wp2_with fail
 refine (BM' ha hs).mono ?_
 rintro e w1 (⟨rfl,rfl,rfl⟩ | ⟨h0,cs,rfl,hr,hl,hseg,b1⟩)
 · go_wp2_with fail
   refine (FZ' hy0).mono ?_
   rintro e w2 ⟨rfl,rfl⟩
   go_wp2_with fail
   refine (AV' (Bk'.nil _ 0)).mono ?_
   rintro e w4 ⟨v,rfl,hv,rfl⟩
   go_wp2_with fail
   go_ret2
   rw [Nat.zero_div,Nat.zero_mod]
   exact ⟨_,rfl,hv.more (Nat.zero_le _),Below.refl _ _⟩
 · have HL:=hid hl;have HS:=hid hseg;clear hl hseg
   go_wp2_with fail
   refine (DK' hr (by rw [HL.out];omega) (by omega) hy0 hy).mono ?_
   rintro e w2 ⟨cs2,k,rfl,hk,hw2,hr2,hl2,-,hz2,hk2⟩
   have HL2:=hid hl2;have HZ2:=hid hz2;have HK2:=hid hk2;clear hl2 hz2 hk2
   go_wp2_with fail
   refine (AV' (hr2.reads (o:=0) (by rw [HL2.out,HL.out];omega) (nL _) (by omega))).mono ?_
   rintro e w4 ⟨v,rfl,hv,rfl⟩
   go_wp2_with fail
   go_ret2
   have e1:=HZ2.out
   have e2:=HK2.out
   rw [HS.out] at e1 e2
   rw [e1] at hv
   rw [←e2]
   exact ⟨_,rfl,hv.more hr2.lt,b1.trans (hw2.below (Nat.le_of_lt hr.lt) (nL _))⟩
theorem CE' {w:World} {k:IntKind} {a b:Int} {n:Nat} (h:a=b):Co' w (.int k b) (.returned (.int k a)) (w.drewN n):=⟨by rw [h],n,rfl⟩
theorem F1' {w:World} {k:IntKind} {a b:Int} (h:a=b):Co' w (.int k b) (.returned (.int k a)) w:=⟨by rw [h],0,rfl⟩
theorem GJ' {w:World} {a2 a1 a0 b1 b0:Nat} (ha1:a1<W) (ha0:a0<W) (hb1:b1<W) (hb0:b0<W) (hb:0<b1) :
   Calls Tryz.prog 154 #[.int .u64 (a2:Nat),.int .u64 (a1:Nat),.int .u64 (a0:Nat),.int .u64 (b1:Nat),.int .u64 (b0:Nat)] w (Co' w (.int .u64 (quo3 a2 a1 a0 b1 b0:Nat))):=by
 rcases Nat.lt_or_ge a2 b1 with hlt | hge
 · have hq:quo3 a2 a1 a0 b1 b0=(a2*W*W+a1*W+a0) / (b1*W+b0):=by unfold quo3;rw [if_neg (by omega)]
   obtain ⟨Q,hQ⟩:=eX ((a2*W*W+a1*W+a0) / (b1*W+b0))
   rw [hq,←hQ]
   have HQ:=hid hQ
   have hd1:¬ b1≤a2:=by omega
   have hadd:=@EU'
   have hpos:0<b1*W+b0:=by have:=Nat.mul_pos hb W_pos;omega
   have hQ0:Q≤(a2*W+a1) / b1:=by
     rw [hQ,Nat.le_div_iff_mul_le hb]
     have h1:=Nat.div_mul_le_self (a2*W*W+a1*W+a0) (b1*W+b0)
     generalize (a2*W*W+a1*W+a0) / (b1*W+b0)=q at h1
     have h2:q*b1*W≤(a2*W+a1)*W+a0:=by
       rw [Nat.mul_add,←Nat.mul_assoc] at h1;rw [Nat.add_mul];omega
     have h3:q*b1<a2*W+a1+1:=by
       apply Nat.lt_of_mul_lt_mul_right (a:=W)
       rw [Nat.add_mul _ 1,Nat.one_mul];omega
     omega
   have ht0:(a2*W+a1) / b1<W:=by
     rw [Nat.div_lt_iff_lt_mul hb]
     have:(a2+1)*W≤b1*W:=Nat.mul_le_mul_right _ hlt
     rw [Nat.add_mul] at this
     rw [Nat.mul_comm W];omega
   clear hQ hq
   have hdiv:=Er a2 a1 b1 hlt ha1 hb1
   go_enter Tryz.func154,Tryz.ntmps154
   go_wp2_with fail
   refine (hdiv _).mono ?_
   rintro e w' ⟨rfl,nq,rfl⟩
   go_wp2_with fail
   go_loop [11,12] (fun tv rv=>∃ t rest:Nat,tv=.int .u64 t∧rv=.int .u64 rest∧t<18446744073709551616∧rest<18446744073709551616∧Q≤t∧Hid (t*b1+rest=a2*W+a1)) (fun tv _=>(intOf tv).toNat)
   case atStart=>exact ⟨_,_,rfl,rfl,ht0,Nat.lt_trans (Nat.mod_lt _ hb) hb1,hQ0,by show _=_;rw [Nat.mul_comm];exact Nat.div_add_mod _ _⟩
   case round =>
     obtain ⟨t,rest,rfl,rfl,ht,hrest,hQt,hR⟩:=hrel
     have hmul:=C9' t b0 ht hb0
     have HT:=hid (IK (x:=hi (t*b0)) (y:=lo (t*b0)) (r:=rest) (a:=a0) (CE _) ha0)
     have HLO:=hid (B5' (t*b0))
     have hll:=CE (t*b0)
     by_cases hA:hi (t*b0)<rest
     · go_wp2_with fail
       refine (hmul _).mono ?_
       rintro e w' ⟨rfl,rfl⟩
       go_wp2_with fail
       go_ret
       refine CE' (congrArg Int.ofNat ?_)
       rw [HQ.out]
       refine C8' hb hR.out (by rw [←HQ.out];exact hQt) ?_
       have:=HT.out.1 (.inl hA)
       have:=HLO.out
       rw [Nat.mul_comm W] at this
       omega
     · by_cases hB:hi (t*b0)=rest∧lo (t*b0)≤a0
       · obtain ⟨hB1,hB2⟩:=hB
         have hE:(((hi (t*b0):Nat):Int)==((rest:Nat):Int))=true:=by rw [beq_iff_eq];omega
         have HB1:=hid hB1;clear hB1
         go_wp2_with fail
         refine (hmul _).mono ?_
         rintro e w' ⟨rfl,rfl⟩
         go_wp2_with fail
         go_ret
         refine CE' (congrArg Int.ofNat ?_)
         rw [HQ.out]
         refine C8' hb hR.out (by rw [←HQ.out];exact hQt) ?_
         have:=HT.out.1 (.inr ⟨HB1.out,hB2⟩)
         have:=HLO.out
         rw [Nat.mul_comm W] at this
         omega
       · have hno:rest*W+a0<t*b0:=by
           rcases Nat.lt_or_ge (rest*W+a0) (t*b0) with h | h
           · exact h
           · have h2:=HLO.out
             rw [Nat.mul_comm W] at h2
             rcases HT.out.2 (by omega) with h1 | h1
             · exact absurd h1 hA
             · exact absurd h1 hB
         have HGO:=hid (Il' hb hR.out (by rw [←HQ.out];exact hQt) hno)
         have ht0:0<t:=HGO.out.1
         have hQ1:Q≤t - 1:=by have:=HGO.out.2.1;rwa [←HQ.out] at this
         have hhs:hi (rest+b1)≤1:=by have:=ET' (c:=0) hrest hb1 (by omega);exact this
         have hls:=CE (rest+b1)
         have hfin:hi (rest+b1)≠0→t - 1=Q:=by
           intro h
           rw [HQ.out]
           refine C8' hb HGO.out.2.2 HGO.out.2.1 ?_
           have h1:=B5' (rest+b1)
           have h2:W*1≤W*hi (rest+b1):=mL _ (by omega)
           have h3:W*W≤(rest+b1)*W:=Nat.mul_le_mul_right _ (by omega)
           have h4:(t - 1)*b0≤W*W:=Nat.mul_le_mul (Nat.le_of_lt (Nat.lt_of_le_of_lt (Nat.sub_le _ _) ht)) (Nat.le_of_lt hb0)
           omega
         have HF:=hid hfin
         have HN:=hid hno
         clear hfin hno
         by_cases hC:hi (t*b0)=rest
         · have hlo:a0<lo (t*b0):=by
             rcases Nat.lt_or_ge a0 (lo (t*b0)) with h | h
             · exact h
             · exact absurd ⟨hC,h⟩ hB
           have hE:(((hi (t*b0):Nat):Int)==((rest:Nat):Int))=true:=by rw [beq_iff_eq];omega
           clear hB hC
           by_cases hZ:hi (rest+b1)=0
           · have hE2:(((hi (rest+b1):Nat):Int) != 0)=false:=by simp [hZ]
             have HZ:=hid hZ;clear hZ
             go_wp2_with fail
             refine (hmul _).mono ?_
             rintro e w' ⟨rfl,rfl⟩
             go_wp2_with fail
             go_round
             case rel =>
               refine ⟨t - 1,lo (rest+b1),by go_num,rfl,by omega,hls,hQ1,?_⟩
               have h1:=B5' (rest+b1)
               rw [HZ.out] at h1
               have h2:=HGO.out.2.2
               show _=_
               omega
             case measure=>simp [intOf];omega
           · have hE2:(((hi (rest+b1):Nat):Int) != 0)=true:=by rw [bne_iff_ne];omega
             go_wp2_with fail
             refine (hmul _).mono ?_
             rintro e w' ⟨rfl,rfl⟩
             go_wp2_with fail
             go_ret
             exact CE' (by rw [←HF.out hZ];omega)
         · have hE:(((hi (t*b0):Nat):Int)==((rest:Nat):Int))=false:=by rw [beq_eq_false_iff_ne];omega
           clear hB
           by_cases hZ:hi (rest+b1)=0
           · have hE2:(((hi (rest+b1):Nat):Int) != 0)=false:=by simp [hZ]
             have HZ:=hid hZ;clear hZ
             go_wp2_with fail
             refine (hmul _).mono ?_
             rintro e w' ⟨rfl,rfl⟩
             go_wp2_with fail
             go_round
             case rel =>
               refine ⟨t - 1,lo (rest+b1),by go_num,rfl,by omega,hls,hQ1,?_⟩
               have h1:=B5' (rest+b1)
               rw [HZ.out] at h1
               have h2:=HGO.out.2.2
               show _=_
               omega
             case measure=>simp [intOf];omega
           · have hE2:(((hi (rest+b1):Nat):Int) != 0)=true:=by rw [bne_iff_ne];omega
             go_wp2_with fail
             refine (hmul _).mono ?_
             rintro e w' ⟨rfl,rfl⟩
             go_wp2_with fail
             go_ret
             exact CE' (by rw [←HF.out hZ];omega)
 · have hq:quo3 a2 a1 a0 b1 b0=W - 1:=by unfold quo3;rw [if_pos hge]
   rw [hq]
   go_enter Tryz.func154,Tryz.ntmps154
   go_wp2_with fail
   go_ret
   exact F1' (by rw [BG'];rfl)
def Ar (a b:Nat):Int:=if a<b then -1 else if a=b then 0 else 1
def A0' (a b:Int):Int:=if a<b then -1 else if a=b then 0 else 1
theorem BT {w:World} (x y:Int):Calls Tryz.prog 54 #[.int .i64 x,.int .i64 y] w (Bs w (.int .i64 (A0' x y))):=by
 have hxx:(x != x)=false:=by simp
 have hyy:(y != y)=false:=by simp
 rcases Int.lt_trichotomy x y with h | h | h
 · have hc:A0' x y = -1:=by unfold A0';rw [if_pos h]
   rw [hc]
   go_enter Tryz.func54,Tryz.ntmps54
   go_wp2
   go_ret
   exact ⟨rfl,rfl⟩
 · subst h
   have hc:A0' x x=0:=by unfold A0';rw [if_neg (by omega),if_pos rfl]
   rw [hc]
   have hlt:decide (x<x)=false:=by simp
   go_enter Tryz.func54,Tryz.ntmps54
   go_wp2
   go_ret
   exact ⟨rfl,rfl⟩
 · have hc:A0' x y=1:=by unfold A0';rw [if_neg (by omega),if_neg (by omega)]
   rw [hc]
   have hlt:¬ x<y:=by omega
   go_enter Tryz.func54,Tryz.ntmps54
   go_wp2
   go_ret
   exact ⟨rfl,rfl⟩
theorem EX {w:World} (x y:Nat):Calls Tryz.prog 128 #[.int .u64 (x:Nat),.int .u64 (y:Nat)] w (Bs w (.int .i64 (Ar x y))):=by
 have hxx:(((x:Nat):Int) != ((x:Nat):Int))=false:=by simp
 have hyy:(((y:Nat):Int) != ((y:Nat):Int))=false:=by simp
 rcases Nat.lt_trichotomy x y with h | h | h
 · have hc:Ar x y = -1:=by unfold Ar;rw [if_pos h]
   rw [hc]
   go_enter Tryz.func128,Tryz.ntmps128
   go_wp2
   go_ret
   exact ⟨rfl,rfl⟩
 · subst h
   have hc:Ar x x=0:=by unfold Ar;rw [if_neg (by omega),if_pos rfl]
   rw [hc]
   have hlt:decide (x<x)=false:=by simp
   go_enter Tryz.func128,Tryz.ntmps128
   go_wp2
   go_ret
   exact ⟨rfl,rfl⟩
 · have hc:Ar x y=1:=by unfold Ar;rw [if_neg (by omega),if_neg (by omega)]
   rw [hc]
   have hlt:¬ x<y:=by omega
   go_enter Tryz.func128,Tryz.ntmps128
   go_wp2
   go_ret
   exact ⟨rfl,rfl⟩
theorem In {a b k:Nat} (h:a / W^(k+1)=b / W^(k+1)):Ar (word a k) (word b k)=Ar (a / W^k) (b / W^k):=by
 rw [Ba a k,Ba b k,h]
 unfold Ar
 simp only [Nat.add_lt_add_iff_right,Nat.add_right_cancel_iff]
theorem Ho' {a b k:Nat} (h:a / W^k≠b / W^k):Ar (a / W^k) (b / W^k)=Ar a b:=by
 unfold Ar
 rcases Nat.lt_trichotomy a b with h1 | h1 | h1
 · have:=Nat.div_le_div_right (c:=W^k) (Nat.le_of_lt h1)
   rw [if_pos (by omega),if_pos h1]
 · subst h1;exact absurd rfl h
 · have:=Nat.div_le_div_right (c:=W^k) (Nat.le_of_lt h1)
   rw [if_neg (by omega),if_neg (by omega),if_neg (by omega),if_neg (by omega)]
theorem Bs' {w:World} {a b:Nat} {va vb:Value} (ha:Nt w va a) (hb:Nt w vb b) :
   Calls Tryz.prog 92 #[va,vb] w (Co' w (.int .i64 (Ar a b))):=by
 obtain ⟨A,c,rfl,hca,hca2,hz,hp⟩:=id ha
 obtain ⟨A',c',rfl,hcb,hcb2,hz',hp'⟩:=id hb
 by_cases hl:len a=len b
 · have ht:(((len a:Nat):Int) != ((len b:Nat):Int))=false:=by simp [hl]
   have HL:=hid hl
   have hl1:len a≤len b:=by omega
   have hl2:len b≤len a:=by omega
   clear hl
   go_enter Tryz.func92,Tryz.ntmps92
   go_wp2_with fail
   go_loopw [5] (fun i wr=>∃ k n:Nat,k≤len a∧i=.int .i64 (downI k)∧wr=w.drewN n∧Hid (a / W^k=b / W^k)) (fun i _=>(intOf i+1).toNat)
   case atStart =>
     refine ⟨len a,0,nL _,by rw [AM'],rfl,?_⟩
     show _=_
     rw [Nat.div_eq_of_lt (Ao a),HL.out,Nat.div_eq_of_lt (Ao b)]
   case round =>
     obtain ⟨k,n,hk,rfl,rfl,hR⟩:=hrel
     match k,hk,hR with
     | 0,hk,hR =>
       simp only [downI]
       go_wp2_with fail
       go_ret
       refine ⟨?_,n,rfl⟩
       have:=hR.out
       simp only [Nat.pow_zero,Nat.div_one] at this
       subst this
       unfold Ar
       rw [if_neg (by omega),if_pos rfl]
       rfl
     | p+1,hk,hR =>
       simp only [downI]
       obtain ⟨g,o,rfl,hg,hcell⟩:=hp (Ak.1 (by omega))
       obtain ⟨g',o',rfl,hg',hcell'⟩:=hp' (Ak.1 (by omega))
       have h1:=hcell p (by omega)
       have h2:=hcell' p (by omega)
       have ht:=In hR.out
       have hi1:(p:Int)<((len a:Nat):Int):=by omega
       have hi2:(p:Int)<((len b:Nat):Int):=by omega
       clear hcell hcell'
       by_cases he:word a p=word b p
       · have hne:(((word a p:Nat):Int) != ((word b p:Nat):Int))=false:=by simp [he]
         have HE:=hid he;clear he
         go_wp2_with fail
         go_quiet (fail)
         go_wp2_with fail
         go_roundw
         case rel =>
           refine ⟨p,n+nq,by omega,congrArg (Value.int .i64) (AM' p).symm,rfl,?_⟩
           show _=_
           rw [Ba a p,Ba b p,hR.out,HE.out]
         case measure=>simp [intOf]
       · have hne:(((word a p:Nat):Int) != ((word b p:Nat):Int))=true:=by rw [bne_iff_ne];omega
         go_wp2_with fail
         go_quiet (fail)
         have hne2:a / W^p≠b / W^p:=by
           intro e;apply he;unfold word;rw [e]
         have hc:=Ho' hne2
         have HC:=hid (ht.trans hc);clear ht hc hne2
         go_wp2_with fail
         have g1:((w.drewN n).drewN nq).cell? _=_:=h1
         have g2:((w.drewN n).drewN nq).cell? _=_:=h2
         have hwn:=World.drewN_drewN w n nq
         generalize (w.drewN n).drewN nq=wq at g1 g2 hwn ⊢
         have HW:=hid hwn
         clear h1 h2 hwn
         go_quiet ((go_at_call 128;exact FW (EX _ _)))
         go_wp2_with fail
         go_ret
         exact ⟨by rw [←HC.out];rfl,_,by rw [HW.out,World.drewN_drewN]⟩
 · have ht:(((len a:Nat):Int) != ((len b:Nat):Int))=true:=by rw [bne_iff_ne];omega
   have hc:A0' ((len a:Nat):Int) ((len b:Nat):Int)=Ar a b:=by
     unfold A0' Ar
     rcases Nat.lt_or_ge (len a) (len b) with h | h
     · have:=En h
       rw [if_pos (by omega),if_pos this]
     · have:=En (show len b<len a by omega)
       rw [if_neg (by omega),if_neg (by omega),if_neg (by omega),if_neg (by omega)]
   have HC:=hid hc;clear hc hl
   go_enter Tryz.func92,Tryz.ntmps92
   go_wp2_with fail
   refine (BT _ _).mono ?_
   rintro e w' ⟨rfl,rfl⟩
   go_wp2_with fail
   go_ret
   exact ⟨by rw [←HC.out];rfl,0,rfl⟩
theorem Da' {x y:Nat} (hx:x<W) (hy:y<W):x*y+2*W≤W*W+1:=by
 have h1:x*y≤(W - 1)*(W - 1):=Nat.mul_le_mul (by omega) (by omega)
 have h2:(W - 1)*(W - 1)+2*W=W*W+1:=by decide +kernel
 omega
theorem Hp:W*W=340282366920938463463374607431768211456:=by decide +kernel
theorem In' {x y d cy:Nat} (hx:x<W) (hy:y<W) (hd:d<W) (hc:cy<W) :
   lo (lo (lo (x*y)+d+0)+cy+0)+W*(hi (x*y)+hi (lo (x*y)+d+0)+hi (lo (lo (x*y)+d+0)+cy+0))=d+x*y+cy ∧
     hi (x*y)+hi (lo (x*y)+d+0)+hi (lo (lo (x*y)+d+0)+cy+0)<18446744073709551616:=by
 have h1:=B5' (x*y)
 have h2:=B5' (lo (x*y)+d+0)
 have h3:=B5' (lo (lo (x*y)+d+0)+cy+0)
 have h4:=Da' hx hy
 rw [Hp] at h4
 rw [BG'] at *
 refine ⟨by omega,by omega⟩
theorem Ih {x y d:Nat} (hx:x<W) (hy:y<W) (hd:d<W):hi (x*y)+hi (lo (x*y)+d+0)<18446744073709551616:=by
 have h1:=B5' (x*y)
 have h2:=B5' (lo (x*y)+d+0)
 have h4:=Da' hx hy
 rw [Hp] at h4
 rw [BG'] at *
 omega
theorem Io {x y d m:Nat} (hx:x<W) (hy:y<W) (hd:d<W) (hm:m<W) :
   dlo d (lo (lo (x*y)+m+0)) 0+x*y+m=d+W*(hi (x*y)+hi (lo (x*y)+m+0)+dhi d (lo (lo (x*y)+m+0)) 0) ∧
     hi (x*y)+hi (lo (x*y)+m+0)+dhi d (lo (lo (x*y)+m+0)) 0<18446744073709551616:=by
 have h1:=B5' (x*y)
 have h2:=B5' (lo (x*y)+m+0)
 have h3:=EP (b:=0) hd (CE (lo (x*y)+m+0)) (by omega)
 have h4:=Da' hx hy
 have h5:=dlo_lt d (lo (lo (x*y)+m+0)) 0
 rw [Hp] at h4
 rw [BG'] at *
 refine ⟨by omega,by omega⟩
theorem GK {P z z' s bm bw d c k l h:Nat} (e1:z+bm=s+P*c) (e2:z'+P*d=z+P*l) (e3:l+bw+c=d+W*h) (hk:k=P*W) :
   z'+(bm+P*bw)=s+k*h:=by
 subst hk
 have:=congrArg (P * ·) e3
 simp only [Nat.mul_add,←Nat.mul_assoc] at this ⊢
 omega
theorem BV' {w:World} {g o n c B:Nat} {cs:List Nat} {vb:Value} {b y:Nat} (hr:AK' w g cs) (hon:o+n≤cs.length) (hb:As' w B vb b) (hB:B≤g) (hbn:len b=n) (hy:y<W) :
   Calls Tryz.prog 104 #[.slice (some ⟨g,o,none⟩) n c,vb,.int .u64 (y:Nat)] w (CL w g cs o n fun z k=>z+W^n*k=seg cs o n+b*y):=by
 subst hbn
 obtain ⟨A,cb,rfl,hc1,hc2,hz,hp⟩:=hb
 have hadd:=@EP'
 have hadd0:=@EU'
 have hy':y<18446744073709551616:=hy
 go_enter Tryz.func104,Tryz.ntmps104
 go_wp2_with fail
 go_loopw [7,15] (fun cv i wr=>∃ k c:Nat,k≤len b∧i=.int .i64 k∧cv=.int .u64 c∧c<18446744073709551616∧AJ w g cs o (len b) (fun z=>z+W^k*c=seg cs o (len b)+(b%W^k)*y) wr) (fun _ i _=>len b - (intOf i).toNat)
 case atStart=>exact ⟨0,0,by omega,rfl,rfl,by omega,AJ.start hr (by simp [Nat.mod_one])⟩
 case round =>
   obtain ⟨k,cy,hk,rfl,rfl,hcy,cs1,hw1,hr1,hl1,hs1,hR1⟩:=hrel
   have h2:=fun (hh:k<len b)=>hr1.cell (i:=o+k) (by omega)
   have h3:=hr1.frozen (o+k)
   have hd:=hr1.getD_lt (o+k)
   generalize hdd:cs1.getD (o+k) 0=d at h2 hd
   have Hd:=hid hdd;clear hdd
   have HR:=hid hR1;clear hR1
   have HL:=hid hl1;clear hl1
   have hsz:=hr.lt
   by_cases hlt:k<len b
   · obtain ⟨gb,ob,rfl,hgb,hcell⟩:=hp (Ak.1 (by omega))
     have h1:wr.cell? ⟨gb,ob+k,none⟩=some (.int .u64 (word b k:Nat)):=(World.cell?_of_block (hw1.block gb (by omega) (by simp;omega))).trans (hcell k hlt)
     have h2':=h2 hlt
     clear h2 hcell
     have hbw:=word_lt b k
     generalize hbb:word b k=bw at h1 hbw
     have Hb:=hid hbb;clear hbb
     obtain ⟨f1,f2⟩:=In' hbw hy hd hcy
     have f3:=Ih hbw hy hd
     simp only [Nat.add_zero] at f1 f2 f3
     have F1:=hid f1;clear f1
     have hmul:=C9' bw y hbw hy
     go_wp2_with fail
     refine (hmul _).mono ?_
     rintro e w' ⟨rfl,rfl⟩
     go_wp2_with fail
     go_roundw
     case rel =>
       refine ⟨k+1,_,by omega,by go_num,rfl,f2,?_⟩
       refine AJ.step hw1 hr1 HL.out hs1 hlt hon (CE _) fun z hz=>?_
       rw [Hd.out] at hz
       rw [AB,Hb.out,Nat.add_mul,Nat.mul_assoc]
       exact Dy' HR.out hz F1.out (Nat.pow_succ ..)
     case measure=>simp [intOf];omega
   · obtain rfl:k=len b:=by omega
     clear h2
     go_wp2_with fail
     go_ret
     exact ⟨cs1,cy,rfl,hcy,hw1,hr1,HL.out,hs1,by have:=HR.out;rwa [AY' (nL _)] at this⟩
theorem Cm' {w:World} {g o n c B:Nat} {cs:List Nat} {vb:Value} {b y:Nat} (hr:AK' w g cs) (hon:o+n≤cs.length) (hb:As' w B vb b) (hB:B≤g) (hbn:len b=n) (hy:y<W) :
   Calls Tryz.prog 155 #[.slice (some ⟨g,o,none⟩) n c,vb,.int .u64 (y:Nat)] w (CL w g cs o n fun z k=>z+b*y=seg cs o n+W^n*k):=by
 subst hbn
 obtain ⟨A,cb,rfl,hc1,hc2,hz,hp⟩:=hb
 have hadd0:=@EU'
 have hsub0:=@EV
 have hy':y<18446744073709551616:=hy
 go_enter Tryz.func155,Tryz.ntmps155
 go_wp2_with fail
 go_loopw [7,15] (fun cv i wr=>∃ k c:Nat,k≤len b∧i=.int .i64 k∧cv=.int .u64 c∧c<18446744073709551616∧AJ w g cs o (len b) (fun z=>z+(b%W^k)*y=seg cs o (len b)+W^k*c) wr) (fun _ i _=>len b - (intOf i).toNat)
 case atStart=>exact ⟨0,0,by omega,rfl,rfl,by omega,AJ.start hr (by simp [Nat.mod_one])⟩
 case round =>
   obtain ⟨k,cy,hk,rfl,rfl,hcy,cs1,hw1,hr1,hl1,hs1,hR1⟩:=hrel
   have h2:=fun (hh:k<len b)=>hr1.cell (i:=o+k) (by omega)
   have h3:=hr1.frozen (o+k)
   have hd:=hr1.getD_lt (o+k)
   generalize hdd:cs1.getD (o+k) 0=d at h2 hd
   have Hd:=hid hdd;clear hdd
   have HR:=hid hR1;clear hR1
   have HL:=hid hl1;clear hl1
   have hsz:=hr.lt
   by_cases hlt:k<len b
   · obtain ⟨gb,ob,rfl,hgb,hcell⟩:=hp (Ak.1 (by omega))
     have h1:wr.cell? ⟨gb,ob+k,none⟩=some (.int .u64 (word b k:Nat)):=(World.cell?_of_block (hw1.block gb (by omega) (by simp;omega))).trans (hcell k hlt)
     have h2':=h2 hlt
     clear h2 hcell
     have hbw:=word_lt b k
     generalize hbb:word b k=bw at h1 hbw
     have Hb:=hid hbb;clear hbb
     obtain ⟨f1,f2⟩:=Io hbw hy hd hcy
     have f3:=Ih hbw hy hcy
     simp only [Nat.add_zero] at f1 f2 f3
     have F1:=hid f1;clear f1
     have hmul:=C9' bw y hbw hy
     go_wp2_with fail
     refine (hmul _).mono ?_
     rintro e w' ⟨rfl,rfl⟩
     go_wp2_with fail
     go_roundw
     case rel =>
       refine ⟨k+1,_,by omega,by go_num,rfl,f2,?_⟩
       refine AJ.step hw1 hr1 HL.out hs1 hlt hon (dlo_lt _ _ _) fun z hz=>?_
       rw [Hd.out] at hz
       rw [AB,Hb.out,Nat.add_mul,Nat.mul_assoc]
       exact GK HR.out hz F1.out (Nat.pow_succ ..)
     case measure=>simp [intOf];omega
   · obtain rfl:k=len b:=by omega
     clear h2
     go_wp2_with fail
     go_ret
     exact ⟨cs1,cy,rfl,hcy,hw1,hr1,HL.out,hs1,by have:=HR.out;rwa [AY' (nL _)] at this⟩
theorem Hp' {cs:List Nat} {o n b:Nat} (hcs:∀ d∈cs,d<W) (hn:2≤n) (hlen:len b=n) (htop:W≤2*word b (n - 1)) (hA:seg cs o (n+1)<b*W)
   (h0:cs.getD (o+(n - 2)) 0<W) (h1:cs.getD (o+(n - 1)) 0<W) :
   quo3 (cs.getD (o+n) 0) (cs.getD (o+(n - 1)) 0) (cs.getD (o+(n - 2)) 0) (word b (n - 1)) (word b (n - 2))<W ∧
   seg cs o (n+1) / b≤quo3 (cs.getD (o+n) 0) (cs.getD (o+(n - 1)) 0) (cs.getD (o+(n - 2)) 0) (word b (n - 1)) (word b (n - 2)) ∧
   quo3 (cs.getD (o+n) 0) (cs.getD (o+(n - 1)) 0) (cs.getD (o+(n - 2)) 0) (word b (n - 1)) (word b (n - 2))≤seg cs o (n+1) / b+1:=by
 obtain ⟨m,rfl⟩:∃ m,n=m+2:=⟨n - 2,by omega⟩
 simp only [Nat.add_sub_cancel,show m+2 - 1=m+1 by omega] at *
 refine FV' (la:=seg cs o m) (lb:=b%W^m) (K:=W^m) htop (word_lt _ _) (word_lt _ _) h0 h1 (AH' m) (Br' hcs o m) (Nat.mod_lt _ (AH' m)) ?_ ?_ hA
 · rw [show m+2+1=m+(1+(1+1)) by omega,AB',AB',AB']
   simp only [seg,Nat.pow_zero,Nat.one_mul,Nat.zero_add,Nat.add_zero,Nat.pow_one,Nat.add_assoc,Nat.reduceAdd]
   generalize cs.getD (o+m) 0=x
   generalize cs.getD (o+(m+1)) 0=y
   generalize cs.getD (o+(m+2)) 0=z
   generalize W^m=K
   generalize W=V
   grind
 · have e1:=AY' (x:=b) (n:=m+2) (by omega)
   rw [AB,AB] at e1
   rw [Nat.pow_succ] at e1
   generalize word b m=x at *
   generalize word b (m+1)=y at *
   generalize b%W^m=r at *
   rw [←e1]
   generalize W^m=K
   generalize W=V
   grind
theorem Fq' {w:World} {g o n c B b:Nat} {cs:List Nat} {vb:Value} (hr:AK' w g cs) (hon:o+(n+1)≤cs.length) (hcap:n+1≤c) (hc:c≤1125899906842624) (hlc:cs.length≤1125899906842624)
   (hb:As' w B vb b) (hB:B≤g) (hbn:len b=n) (hn:2≤n) (htop:W≤2*word b (n - 1)) (hA:seg cs o (n+1)<b*W) :
   Calls Tryz.prog 133 #[.slice (some ⟨g,o,none⟩) (n+1) c,vb] w (CL w g cs o (n+1) fun z k=>z=seg cs o (n+1)%b∧k=seg cs o (n+1) / b):=by
 subst hbn
 obtain ⟨A,cb,rfl,hc1,hc2,hz,hp⟩:=id hb
 obtain ⟨gb,ob,rfl,hgb,hcell⟩:=hp (Ak.1 (by omega))
 have c0:=hr.cell (i:=o+len b) (by omega)
 have c1:=hr.cell (i:=o+(len b - 1)) (by omega)
 have c2:=hr.cell (i:=o+(len b - 2)) (by omega)
 have d0:=hr.getD_lt (o+len b)
 have d1:=hr.getD_lt (o+(len b - 1))
 have d2:=hr.getD_lt (o+(len b - 2))
 have b1:=hcell (len b - 1) (by omega)
 have b2:=hcell (len b - 2) (by omega)
 have hgo:=Hp' hr.2 hn rfl htop hA d2 d1
 have hw1:=word_lt b (len b - 1)
 have hw2:=word_lt b (len b - 2)
 generalize hx0:cs.getD (o+len b) 0=x0 at *
 generalize cs.getD (o+(len b - 1)) 0=x1 at *
 generalize cs.getD (o+(len b - 2)) 0=x2 at *
 generalize word b (len b - 1)=y1 at *
 generalize word b (len b - 2)=y2 at *
 have hy1:0<y1:=by rw [BG'] at htop;omega
 have hgs:=fun (w:World)=>GJ' (w:=w) (a2:=x0) (a1:=x1) (a0:=x2) (b1:=y1) (b0:=y2) d1 d2 hw1 hw2 hy1
 generalize quo3 x0 x1 x2 y1 y2=t at *
 obtain ⟨ht1,ht2,ht3⟩:=hgo
 have HX:=hid hx0
 have i0:((len b:Nat):Int)<((len b:Nat):Int)+1:=by omega
 have i1:(2:Int)≤((len b:Nat):Int):=by omega
 have ht1':t<18446744073709551616:=ht1
 clear hx0 hcell hp hz
 go_enter Tryz.func133,Tryz.ntmps133
 go_wp2_with fail
 go_quiet ((go_at_call 154;exact Fq (hgs _)))
 have hrq:AK' (w.drewN nq) g cs:=hr.keep rfl
 have hbq:As' (w.drewN nq) B (.slice (some ⟨gb,ob,none⟩) (len b) cb) b:=hb
 have hwq:Az g w (w.drewN nq):=Az.of_below (Aw w nq)
 generalize w.drewN nq=wq at hrq hbq hwq ⊢
 clear c0 c1 c2 b1 b2 hgs hr hb
 go_wp2_with fail
 refine (Cm' hrq (by omega) hbq hB rfl ht1).mono ?_
 rintro e w1 ⟨cs1,m,rfl,hm,hw1,hr1,hl1,hs1,hz1⟩
 have e1:=hr1.cell (i:=o+len b) (by omega)
 rw [hs1 _ (by omega),HX.out] at e1
 have e2:=hr1.frozen (o+len b)
 have hsg:=Br' hr1.2 o (len b)
 have hlb:=Ao b
 have hbpos:0<b:=Ak.1 (by omega)
 have hAe:seg cs o (len b+1)=seg cs o (len b)+x0*W^len b:=by rw [←HX.out,Nat.mul_comm];rfl
 have hm':m<18446744073709551616:=hm
 rcases Nat.eq_or_lt_of_le ht2 with h | h
 · obtain ⟨f1,f2⟩:=Gz hAe hlb hbpos h.symm (by rw [Nat.mul_comm m];exact hz1) hsg
   have HL:=hid hl1;have HS:=hid hs1;have HF:=hid f2;have HT:=hid h;have HZ:=hid hz1;have HA:=hid hAe
   clear hl1 hs1 f2 h hz1 hAe
   go_wp2_with fail
   go_ret
   refine ⟨cs1.set (o+len b) 0,t,rfl,ht1,(hwq.trans hw1).trans (Az.set _ _ _ _),hr1.set W_pos,by rw [List.length_set,HL.out],fun i hi=>?_,?_,HT.out.symm⟩
   · rw [getD_set,if_neg (by omega)];exact HS.out i (by omega)
   · show seg _ o (len b)+W^len b*_=_
     rw [BC' (by omega),getD_set,if_pos ⟨rfl,by rw [HL.out];omega⟩,Nat.mul_zero,Nat.add_zero]
     exact HF.out
 · have htq:t=seg cs o (len b+1) / b+1:=by omega
   obtain ⟨f1,f2⟩:=Gz' hAe hlb hbpos htq (by rw [Nat.mul_comm m];exact hz1) hsg
   have ht0:0<t:=by rw [htq];exact Nat.succ_pos _
   have HL:=hid hl1;have HS:=hid hs1;have HF:=hid f2;have HT:=hid htq;have HZ:=hid hz1;have HA:=hid hAe
   clear hl1 hs1 f2 h hz1 hAe htq ht2 ht3
   have hsz:=hrq.lt
   have hb1:As' w1 B (.slice (some ⟨gb,ob,none⟩) (len b) cb) b:=hbq.mono (hw1.below (by omega) hB) (nL _)
   go_wp2_with fail
   refine (BS' hr1 (by rw [HL.out];omega) (by rw [HL.out];omega) hb1 hB (nL _)).mono ?_
   rintro e w2 ⟨cs2,k2,rfl,hk2,hw2,hr2,hl2,hs2,hz2,hk2'⟩
   have e3:=hr2.cell (i:=o+len b) (by rw [hl2,HL.out];omega)
   have e4:=hr2.frozen (o+len b)
   generalize cs2.getD (o+len b) 0=x3 at e3
   have HL2:=hid hl2;have HS2:=hid hs2;have HZ2:=hid hz2
   clear hl2 hs2 hz2
   go_wp2_with fail
   go_ret
   refine ⟨cs2.set (o+len b) 0,t - 1,?_,by omega,((hwq.trans hw1).trans hw2).trans (Az.set _ _ _ _),hr2.set W_pos,by rw [List.length_set,HL2.out,HL.out],fun i hi=>?_,?_,by rw [HT.out];exact Nat.add_sub_cancel _ _⟩
   · exact congrArg (fun z:Int=>Ending.returned (.int .u64 z)) (by omega)
   · rw [getD_set,if_neg (by omega),HS2.out i (by omega)];exact HS.out i (by omega)
   · show seg _ o (len b)+W^len b*_=_
     rw [BC' (by omega),getD_set,if_pos ⟨rfl,by rw [HL2.out,HL.out];omega⟩,Nat.mul_zero,Nat.add_zero]
     have g1:=HZ2.out
     rw [HF.out] at g1
     have g2:=Br' hr2.2 o (len b)
     have g3:seg cs o (len b+1)%b<W^len b:=Nat.lt_trans (Nat.mod_lt _ hbpos) hlb
     generalize seg cs o (len b+1)%b=r at *
     rcases Nat.eq_zero_or_pos k2 with h0 | h0
     · subst h0;omega
     · obtain rfl:k2=1:=by omega
       omega
theorem EX' {a n q r i:Nat} (hn:n=64*q+r) (hr:r≤64):word (a / 2^n) i=word a (i+q) / 2^r+lo (word a (i+q+1)*2^(64 - r)):=by
 have e1:a / 2^n / W^i=a / W^(i+q) / 2^r:=by
   rw [Nat.div_div_eq_div_mul,Nat.div_div_eq_div_mul,hn,Nat.pow_add,Nat.pow_mul,←AT',Nat.pow_add,Nat.mul_right_comm,Nat.mul_comm (W^q)]
 unfold word
 rw [e1]
 have e2:=Ba a (i+q)
 have e3:a / W^(i+q)%W=word a (i+q):=rfl
 have e4:a / W^(i+q+1)%W=word a (i+q+1):=rfl
 rw [e3,e4,e2]
 have hw:=word_lt a (i+q)
 show _=_+word a (i+q+1)*2^(64 - r)%W
 have e5:word a (i+q+1)*2^(64 - r)%W=2^(64 - r)*(a / W^(i+q+1)%2^r):=by
   rw [←e4,BN' hr,Nat.mul_comm (2^r),Nat.mul_comm (_%_),Nat.mul_mod_mul_left,Nat.mod_mul_left_mod]
 rw [e5]
 generalize word a (i+q)=x at *
 generalize a / W^(i+q+1)=y at *
 have hp:=Nat.two_pow_pos r
 have hp2:=Nat.two_pow_pos (64 - r)
 rw [BN' hr] at hw ⊢
 generalize 2^r=p at *
 generalize 2^(64 - r)=s at *
 rw [Nat.mul_assoc,Nat.add_mul_div_left _ _ hp]
 have hx:x / p<s:=by rw [Nat.div_lt_iff_lt_mul hp,Nat.mul_comm];exact hw
 generalize x / p=z at *
 rw [Nat.mul_comm p s,Nat.mod_mul,Nat.add_mul_mod_self_left,Nat.mod_eq_of_lt hx,Nat.add_mul_div_left _ _ hp2,Nat.div_eq_of_lt hx,Nat.zero_add]
theorem FJ' {n q k z:Nat} (hz:z=k+1) (h:k<n - q):n - q - z<n - q - k:=by omega
def IN (w:World) (a n N k:Nat) (wr:World):Prop :=
  ∃ cs,Az w.heap.size (mk w N) wr∧AK' wr w.heap.size cs∧cs.length=N∧∀ j,j<k→cs.getD j 0=word (a / 2^n) j
theorem CL' {w:World} {a n:Nat} {va:Value} (ha:Nt w va a) (hs:len a≤4398046511104) (hn:n≤281474976710656) :
   Calls Tryz.prog 71 #[va,.int .u64 (n:Nat)] w (AI w (a / 2^n)):=by
 obtain ⟨A,c,rfl,hca,hca2,hz,hp⟩:=id ha
 obtain ⟨q,hq⟩:=eX (n / 64)
 obtain ⟨r,hr⟩:=eX (n%64)
 have e1:((n:Nat):Int) / 64=((q:Nat):Int):=by omega
 have e2:((n:Nat):Int)%64=((r:Nat):Int):=by omega
 have hr64:r<64:=by omega
 have hnq:n=64*q+r:=by omega
 have hq2:q≤4398046511104:=by omega
 have HN:=hid hnq;clear hnq hq hr
 rcases Nat.lt_or_ge q (len a) with hql | hql
 · have hmk:=BV ((len a:Nat) - (q:Nat)) (len a - q) (by omega) (by omega)
   have hms:=BD w (len a - q)
   have hmb:=Ba' w (len a - q)
   have hd1:decide (len a≤q)=false:=dF_ (by omega)
   go_enter Tryz.func71,Tryz.ntmps71
   go_wp2_with fail
   simp only [e2]
   go_loopw [25] (fun i wr=>∃ k:Nat,k≤len a - q∧i=.int .i64 k∧IN w a n (len a - q) k wr) (fun i _=>len a - q - (intOf i).toNat)
   case atStart=>exact ⟨0,by omega,rfl,_,Az.refl _ _,B7' _ _,by simp,fun j hj=>by omega⟩
   case round =>
     obtain ⟨k,hk,rfl,cs,hw1,hr1,hl1,hwords⟩:=hrel
     have hbw:=hw1.below (B:=w.heap.size) (by omega) (nL _)
     by_cases hlt:k<len a - q
     · obtain ⟨g,o,rfl,hg,hcell⟩:=hp (Ak.1 (by omega))
       have h1:wr.cell? ⟨g,o+(k+q),none⟩=some (.int .u64 (word a (k+q):Nat)):=((hmb.trans hbw).cell (p:=⟨g,o+(k+q),none⟩) hg).trans (hcell (k+q) (by omega))
       have h2:=hr1.cell (i:=k) (by rw [hl1];omega)
       have h3:=hr1.frozen k
       generalize cs.getD k 0=d at h2
       have hq0:((word a (k+q):Nat):Int) / 2^r=((word a (k+q) / 2^r:Nat):Int):=by rw [Bi,←Int.natCast_ediv]
       have HQ:=hid hq0;clear hq0
       have HL:=hid hl1;have HZ:=hid hwords
       clear hl1 hwords
       have hne:g≠w.heap.size:=by omega
       by_cases hlast:k+q+1<len a
       · have h4:wr.cell? ⟨g,o+(k+q+1),none⟩=some (.int .u64 (word a (k+q+1):Nat)):=((hmb.trans hbw).cell (p:=⟨g,o+(k+q+1),none⟩) hg).trans (hcell (k+q+1) (by omega))
         clear hcell
         go_wp2_with fail
         rw [HQ.out]
         obtain ⟨wq,hwq⟩:=eX (wr.setCell ⟨w.heap.size,k,none⟩ (.int .u64 ((word a (k+q) / 2^r:Nat):Int)))
         have hd0:word a (k+q) / 2^r<W:=Nat.lt_of_le_of_lt (Nat.div_le_self _ _) (word_lt _ _)
         have hrq:=hr1.set (i:=k) hd0
         have hwrq:=hw1.trans (Az.set wr w.heap.size k (.int .u64 ((word a (k+q) / 2^r:Nat):Int)))
         have g4:wq.cell? ⟨g,o+(k+q+1),none⟩=some (.int .u64 (word a (k+q+1):Nat)):=by rw [hwq,World.cell?_setCell_other _ _ _ _ (by intro e;injection e with e1;omega)];exact h4
         rw [←hwq] at hrq hwrq ⊢
         have g5:=hrq.cell (i:=k) (by rw [List.length_set,HL.out];omega)
         have g6:=hrq.frozen k
         rw [getD_set,if_pos ⟨rfl,by rw [HL.out];omega⟩] at g5
         have hdl:word a (k+q) / 2^r<2^(64 - r):=by
           rw [Nat.div_lt_iff_lt_mul (Nat.two_pow_pos r),Nat.mul_comm,←BN' (r:=r) (by omega)];exact word_lt _ _
         have HOR:=hid (GG' (w:=word a (k+q+1)) hdl (by omega) hd0)
         have HDL:=hid hdl
         have hr64':r≤64:=Nat.le_of_lt hr64
         have HWS:=hid (EX' (a:=a) (n:=n) (q:=q) (r:=r) (i:=k) HN.out hr64')
         generalize word a (k+q) / 2^r=d0 at *
         clear hwq h1 h2 h3 h4 HQ hdl hd0
         go_region
         go_wp2_with fail
         go_roundw
         case rel =>
           refine ⟨k+1,by omega,by go_num,(cs.set k d0).set k (d0+lo (word a (k+q+1)*2^(64 - r))),(hwrq.trans (Az.set _ _ _ _)).drew,?_,?_,?_⟩
           · rw [HOR.out]
             exact (hrq.set (Ig HDL.out (by omega))).keep rfl
           · rw [List.length_set,List.length_set,HL.out]
           · intro j hj
             rw [getD_set,List.length_set,HL.out]
             split
             · rename_i h;obtain ⟨rfl,_⟩:=h;exact HWS.out.symm
             · rename_i h;rw [getD_set,if_neg (by omega)];exact HZ.out j (by omega)
         case measure=>exact FJ' (n:=len a) (q:=q) (k:=k) (by simp [intOf]) hlt
       · have HW0:=hid (Cv' (x:=a) (j:=k+q+1) (by omega))
         have hr64':r≤64:=Nat.le_of_lt hr64
         have HWS:=hid (EX' (a:=a) (n:=n) (q:=q) (r:=r) (i:=k) HN.out hr64')
         clear hcell
         go_wp2_with fail
         go_roundw
         case rel =>
           refine ⟨k+1,by omega,by go_num,cs.set k (word a (k+q) / 2^r),hw1.trans (Az.set _ _ _ _),?_,?_,?_⟩
           · rw [HQ.out]
             exact hr1.set (Nat.lt_of_le_of_lt (Nat.div_le_self _ _) (word_lt _ _))
           · rw [List.length_set,HL.out]
           · intro j hj
             rw [getD_set,HL.out]
             split
             · rename_i h;obtain ⟨rfl,_⟩:=h
               rw [HWS.out,HW0.out,Nat.zero_mul]
               rfl
             · rename_i h;exact HZ.out j (by omega)
         case measure=>exact FJ' (n:=len a) (q:=q) (k:=k) (by simp [intOf]) hlt
     · obtain rfl:k=len a - q:=by omega
       have HL:=hid hl1;have HZ:=hid hwords
       clear hl1 hwords
       go_wp2_with fail
       refine (AV' (hr1.reads (o:=0) (by rw [HL.out];omega) (nL _) (by omega))).mono ?_
       rintro e w4 ⟨v,rfl,hv,rfl⟩
       go_wp2_with fail
       go_ret
       refine Be.made ⟨v,rfl,hv,rfl⟩ (hmb.trans hbw) hr1.lt ?_
       rw [En' (fun j hj=>by rw [Nat.zero_add];exact HZ.out j hj),Nat.mod_eq_of_lt]
       rw [Nat.div_lt_iff_lt_mul (Nat.two_pow_pos n),HN.out,Nat.pow_add,Nat.pow_mul,←AT',←Nat.mul_assoc,←Nat.pow_add,show len a - q+q=len a by omega]
       exact ltl (Ao a) (Nat.le_mul_of_pos_right _ (Nat.two_pow_pos r))
 · have hd1:decide (len a≤q)=true:=dT_ (by omega)
   go_enter Tryz.func71,Tryz.ntmps71
   go_wp2_with fail
   go_ret
   refine ⟨_,rfl,?_,Below.refl _ _⟩
   rw [Nat.div_eq_of_lt]
   · exact Nt.zero _
   · rw [HN.out,Nat.pow_add,Nat.pow_mul,←AT']
     exact ltl (ltl (Ao a) (Nat.pow_le_pow_right W_pos hql)) (Nat.le_mul_of_pos_right _ (Nat.two_pow_pos r))
end Go.Proofs.YtflopjfnppolgaaGreatDoor
