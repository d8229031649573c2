/-
  Contracts of the functions that the law calls, for every input (Rl Rm).
-/
import Derived.Test.YtflopjfnppolgaaGreatDoorZ00
import Derived.Test.YtflopjfnppolgaaGreatDoorZ24
import Derived.Deep.LoopGhost
set_option linter.all false
set_option maxRecDepth 100000
set_option maxHeartbeats 40000000
namespace Go.Proofs.YtflopjfnppolgaaGreatDoor.Rf
open Lib (hid)
open Go.RowKit
open Rx
theorem Ff {a b G:Nat} (hG:G%2=1) (h:Nat.gcd a b=G) (ha:a%2=0):Nat.gcd (a / 2) b=G:=by
 have hb:b%2=1:=by
   rcases Nat.mod_two_eq_zero_or_one b with h2 | h2
   · have:=Nat.dvd_gcd (Nat.dvd_of_mod_eq_zero ha) (Nat.dvd_of_mod_eq_zero h2)
     rw [h] at this
     omega
   · exact h2
 have hc:Nat.Coprime 2 b:=by
   unfold Nat.Coprime
   rw [Nat.gcd_rec,hb];rfl
 have e:a=2*(a / 2):=by omega
 rw [e,Nat.Coprime.gcd_mul_left_cancel _ hc] at h
 exact h
theorem Ed {a b G:Nat} (hG:G%2=1) (h:Nat.gcd a b=G) (hb:b%2=0):Nat.gcd a (b / 2)=G:=by
 rw [Nat.gcd_comm] at h ⊢
 exact Ff hG h hb
theorem HO' {x y a b t:Nat} (h:Nat.gcd x y=2^t*Nat.gcd a b) (ha:a%2=0) (hb:b%2=0):Nat.gcd x y=2^(t+1)*Nat.gcd (a / 2) (b / 2):=by
 have e:Nat.gcd a b=2*Nat.gcd (a / 2) (b / 2):=by
   rw [←Nat.gcd_mul_left];congr 1 <;> omega
 rw [h,e,Nat.pow_succ,Nat.mul_assoc]
theorem Ix' {a b:Nat} (h:¬ (a%2=0∧b%2=0)):Nat.gcd a b%2=1:=by
 rcases Nat.mod_two_eq_zero_or_one (Nat.gcd a b) with h2 | h2
 · have h3:=Nat.dvd_of_mod_eq_zero h2
   exact absurd ⟨Nat.mod_eq_zero_of_dvd (Nat.dvd_trans h3 (Nat.gcd_dvd_left a b)),Nat.mod_eq_zero_of_dvd (Nat.dvd_trans h3 (Nat.gcd_dvd_right a b))⟩ h
 · exact h2
theorem FO' {a b G:Nat} (h:Nat.gcd a b=G) (hab:a≤b):Nat.gcd a (b - a)=G:=by
 rw [Nat.gcd_sub_self_right hab];exact h
theorem HQ' (a:Nat):word a 0%2=a%2:=by
 unfold word V
 rw [Nat.pow_zero,Nat.div_one];omega
theorem Iy {x y a b t:Nat} (h:Nat.gcd x y=2^t*Nat.gcd a b) (hx:0<x):t≤16*len x:=by
 have h0:0<Nat.gcd x y:=Nat.gcd_pos_of_pos_left _ hx
 have h1:2^t≤x:=by
   refine nT ?_ (Nat.gcd_le_left y hx)
   rw [h]
   refine Nat.le_mul_of_pos_right _ ?_
   rcases Nat.eq_zero_or_pos (Nat.gcd a b) with h2 | h2
   · rw [h2,Nat.mul_zero] at h;omega
   · exact h2
 have h2:2^t<2^(16*len x):=Nat.lt_of_le_of_lt h1 (by have:=Ao x;rw [Nat.pow_mul];exact this)
 exact Nat.le_of_lt ((Nat.pow_lt_pow_iff_right (by decide)).1 h2)
theorem Ap'.low {w:World} {v:Value} {z:Nat} (h:Ap' w v z) (h0:0<z):∃ g o c d t,v=.slice (some ⟨g,o,none⟩) (len z) c∧0<len z∧w.cell? ⟨g,o,none⟩=some (.int .i64 (d:Nat))∧bits .and .i64 ((d:Nat):Int) 1=((t:Nat):Int)∧z%2=t:=by
 obtain ⟨A,c,rfl,h1,h2,h3,h4⟩:=h
 have hl:=Ak.2 h0
 obtain ⟨g,o,rfl,hg,hc⟩:=h4 hl
 refine ⟨g,o,c,word z 0,z%2,rfl,hl,?_,?_,rfl⟩
 · have:=hc 0 hl;rw [Nat.add_zero] at this;exact this
 · rw [Ec',←HQ'];omega
def Iy' (w:World) (x y:Nat) (g:Nat) (xv yv tv:Value) (wr:World):Prop:=∃ a b t:Nat,g=a∧Ap' wr xv a∧Ap' wr yv b∧tv=.int .i64 (t:Nat)∧0<a∧0<b∧a≤x∧b≤y∧Nat.gcd x y=2^t*Nat.gcd a b∧Below w.heap.size w wr
def FP (w:World) (L G:Nat) (g:Nat) (xv yv:Value) (wr:World):Prop:=∃ a b:Nat,g=a+b∧Ap' wr xv a∧Ap' wr yv b∧0<a∧len a≤L∧len b≤L∧Nat.gcd a b=G∧Below w.heap.size w wr
theorem Fz' {w:World} {vx vy:Value} {x y:Nat} (hx:Ap' w vx x) (hy:Ap' w vy y) (hx0:0<x) (hy0:0<y) (sx:len x≤68719476736) (sy:len y≤68719476736) :
   Calls Tryz.prog 151 #[vx,vy] w (Cj' w (Nat.gcd x y)):=by
 obtain ⟨D,hD⟩:=eY (Nat.gcd x y)
 obtain ⟨g1,o1,c1,d1,t1,rfl,p1,-,-,-⟩:=hx.low hx0
 obtain ⟨g2,o2,c2,d2,t2,rfl,p2,-,-,-⟩:=hy.low hy0
 obtain ⟨n,hn⟩:=eY (len x)
 obtain ⟨m,hm⟩:=eY (len y)
 have e1:(((n:Nat):Int)==0)=false:=by rw [beq_eq_false_iff_ne];omega
 have e2:(((m:Nat):Int)==0)=false:=by rw [beq_eq_false_iff_ne];omega
 have hx2:=hid hx
 have hy2:=hid hy
 have HG:=hid hD
 rw [hn] at hx2 ⊢
 rw [hm] at hy2 ⊢
 rw [hD]
 replace hn:=hid hn
 replace hm:=hid hm
 clear hx hy hD
 go_enter Tryz.func151,Tryz.ntmps151
 go_wp2_with fail
 clear e1 e2
 go_loopg [0,1,5] x (fun g xv yv tv wr=>Iy' w x y g xv yv tv wr)
 case atStart=>exact ⟨x,y,0,rfl,hx2.out,hy2.out,rfl,hx0,hy0,nL _,nL _,by rw [Nat.pow_zero,Nat.one_mul],Below.refl _ _⟩
 case round =>
   obtain ⟨a,b,t,hg,hxv,hyv,rfl,ha0,hb0,hax,hby,hgcd,hbl⟩:=hrel
   have hla:=Am hax
   have hlb:=Am hby
   have ht16:=Iy hgcd hx0
   obtain ⟨ga,oa,ca,da,ta,rfl,pa,ha1,ha2,ha3⟩:=hxv.low ha0
   obtain ⟨gb,ob,cb,db,tb,rfl,pb,hb1,hb2,hb3⟩:=hyv.low hb0
   replace hxv:=hid hxv
   replace hyv:=hid hyv
   replace hbl:=hid hbl
   by_cases hev:a%2=0∧b%2=0
   · obtain ⟨va,vb⟩:=hev
     have hgcd2:=hid (HO' hgcd va vb)
     have z1:(((ta:Nat):Int)==0)=true:=by rw [beq_iff_eq];omega
     have z2:(((tb:Nat):Int)==0)=true:=by rw [beq_iff_eq];omega
     have HA:=hid (CX' hxv.out (by omega))
     have sb2:len b≤1099511627776:=by omega
     have ha9:0<a / 2∧a / 2<a∧a / 2≤x:=by omega
     have hb9:0<b / 2∧b / 2≤y:=by omega
     replace hgcd:=hid hgcd
     clear va vb ha3 hb3
     go_wp2_with fail
     refine (HA.out).mono ?_
     rintro e w1 ⟨v1,rfl,hv1,b1⟩
     replace hv1:=hid hv1
     replace b1:=hid b1
     have HB:=hid (CX' (hyv.out.keep b1.out) sb2)
     clear HA
     go_wp2_with fail
     refine (HB.out).mono ?_
     rintro e w2 ⟨v2,rfl,hv2,b2⟩
     replace hv2:=hid hv2
     replace b2:=hid b2
     clear HB
     go_wp2_with fail
     go_roundg (a / 2)
     case rel=>exact ⟨a / 2,b / 2,t+1,rfl,hv1.out.keep b2.out,hv2.out,by go_num,by omega,by omega,by omega,by omega,hgcd2.out,Ae' hbl.out (Ae' b1.out b2.out)⟩
     case measure=>omega
   · have hGo:=Ix' hev
     obtain ⟨G,hG⟩:=eY (Nat.gcd a b)
     rw [hG] at hgcd hGo
     rw [HG.out] at hgcd
     obtain ⟨L,hL⟩:=eY (max (len x) (len y))
     have hLa:len a≤L:=by omega
     have hLb:len b≤L:=by omega
     have hL9:L≤1099511627776:=by omega
     have ht9:t≤1099511627776:=by omega
     have hC2:=hid (show FP w L G (a+b) (.slice (some ⟨ga,oa,none⟩) (len a) ca) (.slice (some ⟨gb,ob,none⟩) (len b) cb) wr from ⟨a,b,rfl,hxv.out,hyv.out,ha0,hLa,hLb,hG,hbl.out⟩)
     obtain ⟨ab,hab⟩:=eY (a+b)
     rw [hab] at hC2
     replace hgcd:=hid hgcd
     replace hGo:=hid hGo
     have htst:(∃ z1:(((ta:Nat):Int)==0)=false,True)∨((((ta:Nat):Int)==0)=true∧(((tb:Nat):Int)==0)=false):=by
       by_cases h:ta=0
       · right;constructor
         · rw [beq_iff_eq];omega
         · rw [beq_eq_false_iff_ne];omega
       · left;exact ⟨by rw [beq_eq_false_iff_ne];omega,trivial⟩
     clear hev hG hLa hLb hL hab ha3 hb3 ha0 hb0 hax hby hla hlb ht16 hxv hyv hbl hg
     have rest:True:=trivial
     rcases htst with ⟨z1,-⟩ | ⟨z1,z2⟩
     all_goals
       go_wp2_with fail
     all_goals
       go_loopg [0,1] ab (fun g xv yv wr=>FP w L G g xv yv wr)
       case atStart=>exact hC2.out
       case round =>
         obtain ⟨a,b,hg,hxv,hyv,ha0,hla,hlb,hgab,hbl⟩:=hrel
         replace hbl:=hid hbl
         rcases Nat.eq_zero_or_pos b with hb0 | hb0
         · subst hb0
           rw [Nat.gcd_zero_right] at hgab
           subst hgab
           obtain ⟨Ay,cy,rfl,-,-,-,-⟩:=hyv
           obtain ⟨lz,hlz⟩:=eY (len 0)
           have hlz0:¬ lz>0:=by rw [←hlz,AG'];decide
           have hlz1:((lz:Nat):Int)≤0:=by omega
           have hlz2:decide (0<lz)=false:=dF_ hlz0
           rw [hlz]
           replace hxv:=hid hxv
           clear hlz hlz0 hg hlb
           go_wp2_with fail
           go_loopw [0,6] (fun xv iv wr=>∃ i:Nat,i≤t∧iv=.int .i64 i∧Hid (Ap' wr xv (2^i*a))∧Hid (Below w.heap.size w wr)) (fun _ iv _=>t - (intOf iv).toNat)
           case atStart=>exact ⟨0,Nat.zero_le _,rfl,by rw [Nat.pow_zero,Nat.one_mul];exact hxv,hbl⟩
           case round =>
             obtain ⟨i,hi,rfl,hxi,hbi⟩:=hrel
             rcases Nat.lt_or_ge i t with hit | hit
             · have hlen:len (2^i*a)≤1099511627776:=by
                 refine nT (Am (y:=D) ?_) ?_
                 · rw [hgcd.out];exact Nat.mul_le_mul_right _ (Nat.pow_le_pow_right (by decide) hi)
                 · rw [←HG.out];exact nT (Am (Nat.gcd_le_left y hx0)) (by omega)
               have HD:=hid (Cr' (b:=0) hxi.out (by omega) hlen)
               have he:2*(2^i*a)+0=2^(i+1)*a:=by rw [Nat.pow_succ,Nat.mul_comm (2^i) 2,Nat.mul_assoc];rfl
               rw [he] at HD
               replace he:=hid he
               go_wp2_with fail
               refine (HD.out).mono ?_
               rintro e w3 ⟨v3,rfl,hv3,b3⟩
               replace hv3:=hid hv3
               replace b3:=hid b3
               clear HD
               go_wp2_with fail
               go_roundw
               case rel=>exact ⟨i+1,by omega,by go_num,hv3,hid (Ae' hbi.out b3.out)⟩
               case measure=>simp [intOf];omega
             · obtain rfl:i=t:=by omega
               rw [←hgcd.out] at hxi
               go_wp2_with fail
               go_ret
               exact ⟨_,rfl,hxi.out,hbi.out⟩
         · obtain ⟨w5,hw5⟩:=eX wr
           rw [←hw5] at hxv hyv hbl ⊢
           clear hw5
           have hlb0:0<len b:=Ak.2 hb0
           obtain ⟨Ay,cy,rfl,-,-,-,-⟩:=id hyv
           obtain ⟨lb,hlb9⟩:=eY (len b)
           rw [hlb9] at hlb0 hyv ⊢
           replace hlb9:=hid hlb9
           replace hxv:=hid hxv
           replace hyv:=hid hyv
           replace hgab:=hid hgab
           replace hg:=hid hg
           go_wp2_with fail
           go_loopg [0] a (fun g xv wr=>∃ a':Nat,g=a'∧Ap' wr xv a'∧0<a'∧a'≤a∧Nat.gcd a' b=G∧Below w5.heap.size w5 wr)
           case atStart=>exact ⟨a,rfl,hxv.out,ha0,nL _,hgab.out,Below.refl _ _⟩
           case round =>
             obtain ⟨a',hg2,hxa,ha1,haa,hga,hb5⟩:=hrel
             replace hb5:=hid hb5
             obtain ⟨ga,oa,ca,da,ta,rfl,pa,q1,q2,q3⟩:=hxa.low ha1
             have hla':=Am haa
             replace hxa:=hid hxa
             rcases Nat.mod_two_eq_zero_or_one a' with hev | hev
             · have z1:(((ta:Nat):Int)==0)=true:=by rw [beq_iff_eq];omega
               have hga2:=hid (Ff hGo.out hga hev)
               have hd9:0<a' / 2∧a' / 2<a':=by omega
               have HA:=hid (CX' hxa.out (by omega))
               clear hev q3 hga
               go_wp2_with fail
               refine (HA.out).mono ?_
               rintro e w6 ⟨v6,rfl,hv6,b6⟩
               replace hv6:=hid hv6
               replace b6:=hid b6
               clear HA
               go_wp2_with fail
               go_roundg (a' / 2)
               case rel=>exact ⟨a' / 2,rfl,hv6.out,hd9.1,by omega,hga2.out,Ae' hb5.out b6.out⟩
               case measure=>omega
             · have z1:(((ta:Nat):Int)==0)=false:=by rw [beq_eq_false_iff_ne];omega
               obtain ⟨w6,hw6⟩:=eX wr
               rw [←hw6] at hxa hb5 q1 ⊢
               clear hw6 hev q3
               replace hga:=hid hga
               go_wp2_with fail
               go_loopg [1] b (fun g yv wr=>∃ b':Nat,g=b'∧Ap' wr yv b'∧0<b'∧b'≤b∧Nat.gcd a' b'=G∧Below w6.heap.size w6 wr)
               case atStart=>exact ⟨b,rfl,by rw [←hlb9.out] at hyv;exact (hlb9.out ▸ hyv.out).keep hb5.out,hb0,nL _,hga.out,Below.refl _ _⟩
               case round =>
                 obtain ⟨b',hg3,hyb,hb1,hbb,hgb,hb6⟩:=hrel
                 replace hb6:=hid hb6
                 obtain ⟨gb,ob,cb,db,tb,rfl,pb,r1,r2,r3⟩:=hyb.low hb1
                 have hlb':=Am hbb
                 replace hyb:=hid hyb
                 rcases Nat.mod_two_eq_zero_or_one b' with hev | hev
                 · have z1:(((tb:Nat):Int)==0)=true:=by rw [beq_iff_eq];omega
                   have hgb2:=hid (Ed hGo.out hgb hev)
                   have hd9:0<b' / 2∧b' / 2<b':=by omega
                   have HA:=hid (CX' hyb.out (by omega))
                   clear hev r3 hgb
                   go_wp2_with fail
                   refine (HA.out).mono ?_
                   rintro e w7 ⟨v7,rfl,hv7,b7⟩
                   replace hv7:=hid hv7
                   replace b7:=hid b7
                   clear HA
                   go_wp2_with fail
                   go_roundg (b' / 2)
                   case rel=>exact ⟨b' / 2,rfl,hv7.out,hd9.1,by omega,hgb2.out,Ae' hb6.out b7.out⟩
                   case measure=>omega
                 · have z1:(((tb:Nat):Int)==0)=false:=by rw [beq_eq_false_iff_ne];omega
                   have hxa2:=hid (hxa.out.keep hb6.out)
                   have hbl2:=hid (Ae' hbl.out (Ae' hb5.out hb6.out))
                   have HC:=hid (BE hxa2.out hyb.out (by omega) (by omega))
                   obtain ⟨cc,hcc⟩:=eY (Ar a' b')
                   rw [hcc] at HC
                   have hla2:len a'≤L:=by omega
                   have hlb2:len b'≤L:=by omega
                   clear hev r3 hxa hb5 hb6
                   rcases Nat.lt_or_ge b' a' with hlt | hge
                   · have tc:decide (cc>0)=true:=by rw [←hcc,Ce hlt];rfl
                     have tc2:0<cc:=by have:=Ce hlt;omega
                     have HM:=hid (Ck' hxa2.out hyb.out (Nat.le_of_lt hlt) (by omega))
                     have hgn:=hid (FO' (a:=b') (b:=a') (G:=G) (by rw [Nat.gcd_comm];exact hgb) (Nat.le_of_lt hlt))
                     have hls:=nT (Am (Nat.sub_le a' b')) hla2
                     have hm9:b'+(a' - b')<a+b:=by omega
                     replace hcc:=hid hcc
                     clear hgb
                     go_wp2_with fail
                     refine (HC.out).mono ?_
                     rintro e w7 ⟨rfl,rfl⟩
                     go_wp2_with fail
                     refine (HM.out).mono ?_
                     rintro e w8 ⟨v8,rfl,hv8,b8⟩
                     replace hv8:=hid hv8
                     replace b8:=hid b8
                     clear HC HM
                     go_wp2_with fail
                     go_roundg (b'+(a' - b'))
                     case rel=>exact ⟨b',a' - b',rfl,hyb.out.keep b8.out,hv8.out,hb1,hlb2,hls,hgn.out,Ae' hbl2.out b8.out⟩
                     case measure=>have:=hg.out;omega
                   · have tc:decide (cc>0)=false:=by
                       rw [←hcc]
                       rcases Nat.lt_or_ge a' b' with h | h
                       · rw [BD' h];rfl
                       · rw [Nat.le_antisymm hge h,Ce'];rfl
                     have tc2:cc≤0:=by
                       rw [←hcc]
                       rcases Nat.lt_or_ge a' b' with h | h
                       · rw [BD' h];decide
                       · rw [Nat.le_antisymm hge h,Ce'];exact Int.le_refl _
                     have HM:=hid (Ck' hyb.out hxa2.out hge (by omega))
                     have hgn:=hid (FO' hgb hge)
                     have hls:=nT (Am (Nat.sub_le b' a')) hlb2
                     have hm9:a'+(b' - a')<a+b:=by omega
                     replace hcc:=hid hcc
                     clear hgb
                     go_wp2_with fail
                     refine (HC.out).mono ?_
                     rintro e w7 ⟨rfl,rfl⟩
                     go_wp2_with fail
                     refine (HM.out).mono ?_
                     rintro e w8 ⟨v8,rfl,hv8,b8⟩
                     replace hv8:=hid hv8
                     replace b8:=hid b8
                     clear HC HM
                     go_wp2_with fail
                     go_roundg (a'+(b' - a'))
                     case rel=>exact ⟨a',b' - a',rfl,hxa2.out.keep b8.out,hv8.out,ha1,hla2,hls,hgn.out,Ae' hbl2.out b8.out⟩
                     case measure=>have:=hg.out;omega
theorem Gj {w:World} {vx vy:Value} {x y:Nat} (hx:Ap' w vx x) (hy:Ap' w vy y) (sx:len x≤68719476736) (sy:len y≤68719476736) :
   Calls Tryz.prog 151 #[vx,vy] w (Cj' w (Nat.gcd x y)):=by
 rcases Nat.eq_zero_or_pos x with h0 | h0
 · subst h0
   rw [Nat.gcd_zero_left]
   obtain ⟨A,c,rfl,-,-,-,-⟩:=hx
   rw [AG']
   have hy:=hid hy
   go_enter Tryz.func151,Tryz.ntmps151
   go_wp2_with fail
   go_ret
   exact ⟨_,rfl,hy.out,Below.refl _ _⟩
 · rcases Nat.eq_zero_or_pos y with h1 | h1
   · subst h1
     rw [Nat.gcd_zero_right]
     obtain ⟨A,c,rfl,-,-,-,-⟩:=hy
     rw [AG']
     have hx2:=hid hx
     obtain ⟨A,c,rfl,-,-,-,-⟩:=hx
     have hl:=Ak.2 h0
     obtain ⟨n,hn⟩:=eY (len x)
     rw [hn] at hx2 hl ⊢
     have e1:(((n:Nat):Int)==0)=false:=by rw [beq_eq_false_iff_ne];omega
     clear hn hl
     go_enter Tryz.func151,Tryz.ntmps151
     go_wp2_with fail
     go_ret
     exact ⟨_,rfl,hx2.out,Below.refl _ _⟩
   · exact Fz' hx hy h0 h1 sx sy
def Ah (w:World) (v:Value) (q:Rat):Prop:=∃ v1 v2,v=.agg #[.bool (decide (q.num<0)),v1,v2]∧Ap' w v1 q.num.natAbs∧Ap' w v2 q.den
def A2' (w:World) (q:Rat) (e:Ending) (w':World):Prop:=∃ v,e=.returned v∧Ah w' v q∧Below w.heap.size w w'
theorem Ah.keep {w w':World} {v:Value} {q:Rat} (h:Ah w v q) (hb:Below w.heap.size w w'):Ah w' v q:=by
 obtain ⟨v1,v2,h1,h2,h3⟩:=h
 exact ⟨v1,v2,h1,h2.keep hb,h3.keep hb⟩
theorem Ah.opened {w:World} {v:Value} {q:Rat} (h:Ah w v q):∃ A1 c1 A2 c2,v=.agg #[.bool (decide (q.num<0)),.slice A1 (len q.num.natAbs) c1,.slice A2 (len q.den) c2]∧Ap' w (.slice A1 (len q.num.natAbs) c1) q.num.natAbs∧Ap' w (.slice A2 (len q.den) c2) q.den:=by
 obtain ⟨v1,v2,rfl,h1,h2⟩:=h
 obtain ⟨A1,c1,rfl,r1⟩:=id h1
 obtain ⟨A2,c2,rfl,r2⟩:=id h2
 exact ⟨A1,c1,A2,c2,rfl,h1,h2⟩
def RB (wB:World) (G:Nat) (w:World):Prop:=Below G wB w∧∃ b A n c A' n' c',w.heap[G]?=some (.cells #[.bool b,.slice A n c,.slice A' n' c'] 43 (0,0))
theorem RB.start (w:World):RB w w.heap.size (w.alloc (.cells #[.bool false,.slice none 0 0,.slice none 0 0] 43)):=⟨Am' w _,_,_,_,_,_,_,_,hA_ w _⟩
theorem RB.lt {wB w:World} {G:Nat} (h:RB wB G w):G<w.heap.size:=by
 obtain ⟨-,_,_,_,_,_,_,_,h⟩:=h
 exact (gE.1 h).1
theorem RB.call {wB w w':World} {G:Nat} (h:RB wB G w) (hb:Below w.heap.size w w'):RB wB G w':=by
 have hl:=h.lt
 obtain ⟨h1,b,A,n,c,A',n',c',h2⟩:=h
 exact ⟨h1.trans (hb.mono (Nat.le_of_lt hl)),b,A,n,c,A',n',c',(hb.block _ hl).trans h2⟩
theorem RB.cells {wB w:World} {G:Nat} (h:RB wB G w):∃ u0 u1 u2,(w.cell? ⟨G,0,none⟩=some u0∧w.cell? ⟨G,1,none⟩=some u1∧w.cell? ⟨G,2,none⟩=some u2)∧w.frozen? ⟨G,0,none⟩=false∧w.frozen? ⟨G,1,none⟩=false∧w.frozen? ⟨G,2,none⟩=false:=by
 obtain ⟨-,b,A,n,c,A',n',c',h2⟩:=h
 exact ⟨_,_,_,⟨cR _ _ 0 _ _ _ h2,cR _ _ 1 _ _ _ h2,cR _ _ 2 _ _ _ h2⟩,fR _ _ 0 _ _ h2,fR _ _ 1 _ _ h2,fR _ _ 2 _ _ h2⟩
theorem HS' {w:World} {G:Nat} {T:TypeId} {x y z:Value} (hg:w.heap[G]?=some (.cells #[x,y,z] T (0,0))) (a b c:Value) :
   (((w.setCell ⟨G,0,none⟩ a).setCell ⟨G,1,none⟩ b).setCell ⟨G,2,none⟩ c).heap[G]?=some (.cells #[a,b,c] T (0,0)):=by
 have g1:=heap_setCell_same w G 0 _ _ a hg
 have g2:=heap_setCell_same _ G 1 _ _ b g1
 have g3:=heap_setCell_same _ G 2 _ _ c g2
 rw [g3];rfl
theorem Ap'.other {w:World} {v:Value} {z G i:Nat} {u:Value} {cs:Array Value} {T:TypeId} (h:Ap' w v z) (hg:w.heap[G]?=some (.cells cs T (0,0))) (hp:∀ (i:Nat) (n:Int),cs[i]?≠some (.int .i64 n)):Ap' (w.setCell ⟨G,i,none⟩ u) v z:=by
 obtain ⟨A,c,h1,h2,h3,h4,h5⟩:=h
 refine ⟨A,c,h1,h2,h3,h4,fun hx=>?_⟩
 obtain ⟨g,o,h6,h7,h8⟩:=h5 hx
 have hne:G≠g:=by
   intro e
   have:=h8 0 hx
   rw [←e,cR _ _ _ _ _ _ hg] at this
   exact hp _ _ this
 refine ⟨g,o,h6,by rw [World.size_setCell];exact h7,fun j hj=>?_⟩
 rw [←h8 j hj]
 exact World.cell?_of_block (heap_setCell_other _ _ _ _ (Ne.symm hne))
theorem B2' {b:Bool} {A A':Option Addr} {n c n' c':Nat}:∀ (i:Nat) (k:Int),(#[.bool b,.slice A n c,.slice A' n' c']:Array Value)[i]?≠some (.int .i64 k):=by
 intro i k
 match i with
 | 0=>simp
 | 1=>simp
 | 2=>simp
 | i+3=>simp
theorem RB.store {wB w:World} {G n c n' c':Nat} {b:Bool} {A A':Option Addr} (h:RB wB G w) :
   ∀ w',w'=((w.setCell ⟨G,0,none⟩ (.bool b)).setCell ⟨G,1,none⟩ (.slice A n c)).setCell ⟨G,2,none⟩ (.slice A' n' c') →
     Below G wB w'∧(w'.cell? ⟨G,0,none⟩=some (.bool b)∧w'.cell? ⟨G,1,none⟩=some (.slice A n c)∧w'.cell? ⟨G,2,none⟩=some (.slice A' n' c'))∧∀ v z,Ap' w v z→Ap' w' v z:=by
 intro w' hw
 obtain ⟨h1,b0,A0,n0,c0,A1,n1,c1,h2⟩:=h
 have g:=HS' h2 (.bool b) (.slice A n c) (.slice A' n' c')
 rw [←hw] at g
 refine ⟨by rw [hw];exact ((h1.setCell (p:=⟨G,0,none⟩) (nL _) _).setCell (p:=⟨G,1,none⟩) (nL _) _).setCell (p:=⟨G,2,none⟩) (nL _) _,⟨cR _ _ 0 _ _ _ g,cR _ _ 1 _ _ _ g,cR _ _ 2 _ _ _ g⟩,fun v z hv=>?_⟩
 rw [hw]
 have g1:=heap_setCell_same w G 0 _ _ (.bool b) h2
 have g2:=heap_setCell_same _ G 1 _ _ (.slice A n c) g1
 exact ((hv.other h2 B2').other (i:=1) (u:=.slice A n c) g1 B2').other (i:=2) (u:=.slice A' n' c') g2 B2'
end Go.Proofs.YtflopjfnppolgaaGreatDoor.Rf
