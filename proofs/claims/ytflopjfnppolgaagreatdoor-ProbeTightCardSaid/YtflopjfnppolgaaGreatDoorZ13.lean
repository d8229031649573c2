/-
  Contracts of the functions that the law calls, for every input (Txa Txb).
-/
import Derived.Test.YtflopjfnppolgaaGreatDoorZ00
import Derived.Test.YtflopjfnppolgaaGreatDoorZ12
import Derived.Shelf.Spec.TrailingZeros
import Derived.Deep.LoopGhost
set_option linter.all false
set_option maxRecDepth 100000
set_option maxHeartbeats 40000000
namespace Go.Proofs.YtflopjfnppolgaaGreatDoor
open Lib (hid)
open Go.RowKit
open Vx
def DP' (w:World) (a f:Nat) (e:Ending) (w':World):Prop :=
  ∃ b n v,e=.returned (.tuple #[v,.int .i64 ((n:Nat):Int)])∧Nt w' v b∧a=b*f^n∧b%f≠0∧Below w.heap.size w w'
theorem Dn {b f n:Nat} (hb:0<b) (hf:2≤f):n≤64*len (b*f^n):=by
 have h1:2^n≤b*f^n:=nT (Nat.pow_le_pow_left hf n) (Nat.le_mul_of_pos_left _ hb)
 have h2:=Ao (b*f^n)
 rw [AT',←Nat.pow_mul] at h2
 have h3:2^n<2^(64*len (b*f^n)):=Nat.lt_of_le_of_lt h1 h2
 exact Nat.le_of_lt ((Nat.pow_lt_pow_iff_right (by omega)).1 h3)
theorem Du {w:World} {a f:Nat} {va:Value} (ha:Nt w va a) (hs:len a≤1099511627776) (h0:0<a) (hf:2≤f) (hfW:f<W) :
   Calls Tryz.prog 112 #[va,.int .u64 (f:Nat)] w (DP' w a f):=by
 go_enter Tryz.func112,Tryz.ntmps112
 go_wp2_with fail
 go_loopg [0,6] a (fun k av nv wr=>∃ n:Nat,nv=.int .i64 ((n:Nat):Int)∧Nt wr av k∧0<k∧Hid (a=k*f^n)∧Below w.heap.size w wr)
 case atStart=>exact ⟨0,rfl,ha,h0,by show _=_;rw [Nat.pow_zero,Nat.mul_one],Below.refl _ _⟩
 case round =>
   obtain ⟨n,rfl,hk,hk0,HE,hb⟩:=hrel
   have hn:=Dn (n:=n) hk0 hf
   rw [←HE.out] at hn
   have hlk:len gk≤1099511627776:=nT (Am (by rw [HE.out];exact Nat.le_mul_of_pos_right _ (Nat.pow_pos (by omega)))) hs
   have HC:=hid (Cg hk (nT hlk (by decide)) (show 0<f by omega) hfW)
   have hn2:n≤70368744177664:=by omega
   clear ha hn
   by_cases hr:gk%f=0
   · have ht:(((gk%f:Nat):Int) != 0)=false:=by rw [hr];rfl
     have HR:=hid hr
     clear hr
     go_wp2_with fail
     refine (HC.out).mono ?_
     rintro e w2 ⟨v,rfl,hv,b2⟩
     go_wp2_with fail
     go_roundg (gk / f)
     case measure=>exact Nat.div_lt_self hk0 hf
     case rel =>
       have e1:gk=gk / f*f:=by have:=Nat.div_add_mod gk f;rw [HR.out,Nat.add_zero,Nat.mul_comm] at this;exact this.symm
       refine ⟨n+1,by go_num,hv,?_,?_,Ae' hb b2⟩
       · rcases Nat.eq_zero_or_pos (gk / f) with h | h
         · rw [h,Nat.zero_mul] at e1;omega
         · exact h
       · show _=_
         rw [Nat.pow_succ,Nat.mul_comm (f^n),←Nat.mul_assoc,←e1]
         exact HE.out
   · have ht:(((gk%f:Nat):Int) != 0)=true:=by rw [bne_iff_ne];omega
     have HR:=hid hr
     clear hr
     go_wp2_with fail
     refine (HC.out).mono ?_
     rintro e w2 ⟨v,rfl,hv,b2⟩
     have hk2:=hk.keep b2
     go_wp2_with fail
     go_ret2
     exact ⟨gk,n,_,rfl,hk2,HE.out,HR.out,Ae' hb b2⟩
theorem CF' {w:World} {a:Nat} {va:Value} (ha:Nt w va a) (hs:len a≤1099511627776) (h0:0<a) :
   Calls Tryz.prog 72 #[va] w (DP' w a 5):=by
 have HC:=hid (Du (f:=7450580596923828125) ha hs h0 (by decide) (by rw [BG'];decide))
 go_enter Tryz.func72,Tryz.ntmps72
 go_wp2_with fail
 refine (HC.out).mono ?_
 rintro e w1 ⟨b,n,v,rfl,hv,he,hr,b1⟩
 have hb0:0<b:=by
   rcases Nat.eq_zero_or_pos b with h | h
   · subst h;simp at hr
   · exact h
 have hn:=Dn (n:=n) (f:=7450580596923828125) hb0 (by decide)
 rw [←he] at hn
 have hn2:((n:Nat):Int)≤70368744177664:=by omega
 have hlb:len b≤1099511627776:=nT (Am (by rw [he];exact Nat.le_mul_of_pos_right _ (Nat.pow_pos (by decide)))) hs
 have HE:=hid he
 have HC2:=hid (Du (f:=5) hv hlb hb0 (by decide) (by rw [BG'];decide))
 have HA:=hid hs
 clear hn he hr HC hs hlb ha
 go_wp2_with fail
 refine (HC2.out).mono ?_
 rintro e w2 ⟨b',n',v',rfl,hv',he',hr',b2⟩
 have hb0':0<b':=by
   rcases Nat.eq_zero_or_pos b' with h | h
   · subst h;simp at hr'
   · exact h
 have hn':=Dn (n:=n') (f:=5) hb0' (by decide)
 rw [←he'] at hn'
 have hlb2:len b≤1099511627776:=nT (Am (by rw [HE.out];exact Nat.le_mul_of_pos_right _ (Nat.pow_pos (by decide)))) HA.out
 have hn2':((n':Nat):Int)≤70368744177664:=by omega
 have HE':=hid he';have HR':=hid hr'
 clear hn' he' hr' HC2 hlb2 hv
 go_wp2_with fail
 go_ret2
 refine ⟨b',27*n+n',_,?_,hv',?_,HR'.out,Ae' b1 b2⟩
 · have e:((n:Nat):Int)*27+((n':Nat):Int)=((27*n+n':Nat):Int):=by omega
   show Ending.returned (.tuple #[v',.int .i64 (((n:Nat):Int)*27+((n':Nat):Int))])=_
   rw [e]
 · rw [HE.out,HE'.out,Nat.pow_add,Nat.pow_mul,show (5:Nat)^27=7450580596923828125 by decide,Nat.mul_assoc,Nat.mul_comm (5^n')]
theorem GQ {x k idx:Nat} {w:World} (hx0:((x:Int)==0)=false)
   (key:IntKind.u64.wrap (bits BinOp.and IntKind.u64 (x:Int) (IntKind.u64.wrap (-(x:Int)))*285870213051353865) / 288230376151711744=(idx:Int))
   (hi:idx<64) (hk:k<64) (hcell:w.cell? ⟨0,idx,none⟩=some (.int .u8 k)) :
   Calls Tryz.prog 111 #[.int .u64 x] w fun e w'=>e=.returned (.int .i64 k)∧w'=w:=by
 go_enter Tryz.func111,Tryz.ntmps111
 go_wp2_with (simp only [key])
 go_ret
 exact ⟨rfl,rfl⟩
theorem Hw' {x:Nat} {w:World} (hx:x<18446744073709551616) (hx0:x≠0) (hT:TabAt 0 Lib.deBruijn64tab w) :
   Calls Tryz.prog 111 #[.int .u64 x] w fun e w'=>e=.returned (.int .i64 (Lib.ctz 64 x))∧w'=w:=by
 obtain ⟨hlow,hk⟩:=Lib.lowest_bit 64 x hx0 hx
 obtain ⟨hi,htab⟩:=Lib.deBruijn64_at _ hk
 have hcell:=hT _ hi
 rw [htab] at hcell
 exact GQ (by simp;omega) (tz64_key x _ hx hx0 hlow) hi hk hcell
def Is' (w:World) (a:Nat) (e:Ending) (w':World):Prop :=
  ∃ t b,e=.returned (.int .i64 ((t:Nat):Int))∧a=b*2^t∧b%2=1∧w=w'
theorem Hx {a n:Nat} (hz:a%W^n=0) (hw:word a n≠0):∃ b,a=b*2^(n*64+Lib.ctz 64 (word a n))∧b%2=1:=by
 have hlt:=word_lt a n
 rw [AT'] at hlt
 obtain ⟨m,hm,hk⟩:=Lib.ctzFrom_spec 64 (word a n) (by omega) hlt
 have hc:Lib.ctz 64 (word a n)=Lib.ctzFrom 64 (word a n):=by unfold Lib.ctz;rw [if_neg hw]
 rw [hc]
 generalize Lib.ctzFrom 64 (word a n)=c at hm hk ⊢
 have h1:=Ba a n
 have h2:a=W^n*(a / W^n):=by
   have:=Nat.div_add_mod a (W^n)
   rw [hz,Nat.add_zero] at this
   exact this.symm
 have hW:W=2^c*2^(64 - c):=by rw [AT',←Nat.pow_add];congr 1;omega
 refine ⟨2*m+1+2^(64 - c)*(a / W^(n+1)),?_,?_⟩
 · have e1:a / W^n=(2*m+1+2^(64 - c)*(a / W^(n+1)))*2^c:=by
     rw [h1]
     generalize a / W^(n+1)=r
     rw [hm,hW,Nat.add_mul,Nat.mul_comm (2^c) (2*m+1),Nat.mul_assoc,Nat.mul_comm (2^(64 - c)*r),←Nat.mul_assoc]
   have e2:a=W^n*((2*m+1+2^(64 - c)*(a / W^(n+1)))*2^c):=by rw [←e1];exact h2
   generalize 2*m+1+2^(64 - c)*(a / W^(n+1))=b at e2 ⊢
   rw [e2,Nat.pow_add,show n*64=64*n by omega,Nat.pow_mul,←AT',Nat.mul_comm (W^n),Nat.mul_assoc,Nat.mul_comm (2^c)]
 · have:2^(64 - c)%2=0:=by
     rw [show 64 - c=(63 - c)+1 by omega,Nat.pow_succ,Nat.mul_mod_left]
   rw [Nat.add_mod,Nat.mul_mod,this,Nat.zero_mul,Nat.zero_mod]
   omega
theorem Fa' {a n:Nat} (h:a%W^n=0) (h0:0<a):n<len a:=by
 rcases Nat.lt_or_ge n (len a) with h1 | h1
 · exact h1
 · rw [AY' h1] at h;omega
theorem CV {w:World} {a:Nat} {va:Value} (ha:Nt w va a) (hs:len a≤1099511627776) (h0:0<a) (hT:TabAt 0 Lib.deBruijn64tab w) :
   Calls Tryz.prog 70 #[va] w (Is' w a):=by
 obtain ⟨A,c,rfl,hc1,hc2,hz,hp⟩:=id ha
 obtain ⟨g,o,rfl,hg,hcell⟩:=hp h0
 have HTT:=hid hT
 have HCELL:=hid hcell
 clear hT hcell hp hz ha
 go_enter Tryz.func70,Tryz.ntmps70
 go_wp2_with fail
 go_loop [3] (fun nv=>∃ n:Nat,nv=.int .i64 ((n:Nat):Int)∧n<len a∧Hid (a%W^n=0)) (fun nv=>len a - (intOf nv).toNat)
 case atStart=>exact ⟨0,rfl,Ak.2 h0,by show _=_;rw [Nat.pow_zero,Nat.mod_one]⟩
 case round =>
   obtain ⟨n,rfl,hn,HZ⟩:=hrel
   have hn2:((n:Nat):Int)<((len a:Nat):Int):=by omega
   have hcl:=HCELL.out n hn
   by_cases hw:word a n=0
   · have ht:(((word a n:Nat):Int)==0)=true:=by rw [hw];rfl
     have HW:=hid hw
     clear hw
     go_wp2_with fail
     go_round
     case rel =>
       have hz2:a%W^(n+1)=0:=by rw [AB,HW.out,HZ.out];rfl
       exact ⟨n+1,by go_num,Fa' hz2 h0,hz2⟩
     case measure=>simp [intOf];omega
   · have ht:(((word a n:Nat):Int)==0)=false:=by rw [beq_eq_false_iff_ne];omega
     have HE:=hid (Hx HZ.out hw)
     have hk:Lib.ctz 64 (word a n)≤64:=by
       unfold Lib.ctz
       rw [if_neg hw]
       have hlt:=word_lt a n
       rw [AT'] at hlt
       exact Nat.le_of_lt (Lib.ctzFrom_spec 64 (word a n) (by omega) hlt).choose_spec.2
     have HC:=hid (Hw' (w:=w) (word_lt a n) hw HTT.out)
     clear hw
     generalize Lib.ctz 64 (word a n)=k at HE hk HC
     have hk2:((k:Nat):Int)≤64:=by omega
     go_wp2_with fail
     refine (HC.out).mono ?_
     rintro e w' ⟨rfl,rfl⟩
     go_wp2_with fail
     go_ret
     obtain ⟨b,hb1,hb2⟩:=HE.out
     refine ⟨n*64+k,b,?_,hb1,hb2,rfl⟩
     have e:((n:Nat):Int)*64+((k:Nat):Int)=((n*64+k:Nat):Int):=by omega
     show Ending.returned (.int .i64 (((n:Nat):Int)*64+((k:Nat):Int)))=_
     rw [e]
def digs:Nat→Nat→List UInt8
  | 0,_=>[]
  | k+1,n=>digs k (n / 10)++[UInt8.ofNat (48+n%10)]
theorem Bx' (k n:Nat):(digs k n).length=k:=by
 induction k generalizing n with
 | zero=>rfl
 | succ k ih=>simp [digs,ih]
end Go.Proofs.YtflopjfnppolgaaGreatDoor
