/-
  Contracts of the functions that the law calls, for every input (Txf Txg Txh Txi Txj Txk LawA NumM BoxA BoxB BoxC).
-/
import Derived.Test.YtflopjfnppolgaaGreatDoorZ00
import Derived.Test.YtflopjfnppolgaaGreatDoorZ17
import Derived.Lib.Repeat
import Derived.Lib.SmallJoins
import Derived.Lib.IndexBytes
import Derived.Deep.QuietTactic
import Derived.BigQuiet
import Derived.Test.YtflopjfnppolgaaGreatDoorZ12
import Derived.Test.YtflopjfnppolgaaGreatDoorZ11
import Derived.Test.YtflopjfnppolgaaGreatDoorZ08
import Derived.Test.YtflopjfnppolgaaGreatDoorZ10
import Derived.Test.YtflopjfnppolgaaGreatDoorZ09
set_option linter.all false
set_option maxRecDepth 100000
set_option maxHeartbeats 40000000
namespace Go.Proofs.YtflopjfnppolgaaGreatDoor
open Lib (hid)
open Go.RowKit
open Vx
def AX' (l:List UInt8) (p:Nat):List UInt8 :=
  if p=0 then l else
    (List.replicate (p+1 - l.length) 48++l).take ((List.replicate (p+1 - l.length) 48++l).length - p)++[46] ++
      (List.replicate (p+1 - l.length) 48++l).drop ((List.replicate (p+1 - l.length) 48++l).length - p)
theorem AP' (a b:ByteArray):(a++b).data.toList=a.data.toList++b.data.toList:=by
 rw [ByteArray.data_append,Array.toList_append]
theorem CA {b:ByteArray} {l:List UInt8} (h:b.data.toList=l):b=⟨l.toArray⟩:=by
 subst h
 rfl
theorem De {s:ByteArray} {l:List UInt8} {p:Nat} (hs:s.data.toList=List.replicate (p+1 - l.length) 48++l) (h0:0<p) (_h:p<s.size) :
   (⟨(s.extract 0 (s.size - p)++⟨#[46]⟩++s.extract (s.size - p) s.size).data⟩:ByteArray)=⟨(AX' l p).toArray⟩:=by
 apply CA
 have hsz:s.size=(List.replicate (p+1 - l.length) 48++l).length:=by rw [←hs];exact (Array.length_toList (xs:=s.data)).symm
 rw [AP',AP',Lib.extract_data,Lib.extract_to_end,hs,hsz]
 unfold AX'
 rw [if_neg (by omega),Nat.sub_zero,List.drop_zero]
theorem Fy' {s:ByteArray} {l:List UInt8} {p:Nat} (hs:s=⟨l.toArray⟩) (h0:0<p) (h:p<l.length) :
   (⟨(s.extract 0 (s.size - p)++⟨#[46]⟩++s.extract (s.size - p) s.size).data⟩:ByteArray)=⟨(AX' l p).toArray⟩:=by
 have hr:List.replicate (p+1 - l.length) (48:UInt8)++l=l:=by rw [show p+1 - l.length=0 by omega];rfl
 refine De (by rw [hr,hs]) h0 ?_
 rw [hs]
 exact h
theorem Fb' {w:World} {l:List UInt8}:Calls Tryz.prog 77 #[.string ⟨l.toArray⟩,.int .i64 0] w (BJ w l):=by
 go_enter Tryz.func77,Tryz.ntmps77
 go_wp2_with fail
 go_ret
 exact ⟨rfl,Below.refl _ _⟩
theorem GU {w:World} {l:List UInt8} {p:Nat} (h0:0<p) (hp:p≤70368744177664) (hl:l.length≤70368744177664) (h:p<l.length) :
   Calls Tryz.prog 77 #[.string ⟨l.toArray⟩,.int .i64 ((p:Nat):Int)] w (BJ w (AX' l p)):=by
 have t0:(((p:Nat):Int)==0)=false:=by rw [beq_eq_false_iff_ne];omega
 obtain ⟨s,hs⟩:=eX (⟨l.toArray⟩:ByteArray)
 have hsz:s.size=l.length:=by rw [hs];rfl
 rw [←hs]
 have HS:=hid hs
 have h1:((p:Nat):Int)<((s.size:Nat):Int):=by omega
 have h2:((s.size:Nat):Int)≤70368744177664:=by omega
 have h3:¬ (0:Int)<((p:Nat):Int)+1 - ((s.size:Nat):Int):=by omega
 have HZ:=hid hsz
 clear hs hsz h hl
 go_enter Tryz.func77,Tryz.ntmps77
 go_wp2_with fail
 go_quiet (fail)
 go_wp2_with fail
 go_ret
 refine ⟨?_,Aw w _⟩
 have e:=Fy' (s:=s) (l:=l) (p:=p) (by rw [HS.out]) h0 (by rw [←HZ.out];omega)
 rw [←e]
 rfl
theorem GU' {w:World} {l:List UInt8} {p:Nat} (h0:0<p) (hp:p≤70368744177664) (h:l.length≤p) :
   Calls Tryz.prog 77 #[.string ⟨l.toArray⟩,.int .i64 ((p:Nat):Int)] w (BJ w (AX' l p)):=by
 have t0:(((p:Nat):Int)==0)=false:=by rw [beq_eq_false_iff_ne];omega
 obtain ⟨s,hs⟩:=eX (⟨l.toArray⟩:ByteArray)
 have hsz:s.size=l.length:=by rw [hs];rfl
 rw [←hs]
 have HS:=hid hs
 obtain ⟨c,hc⟩:=eX (p+1 - l.length)
 have h1:((s.size:Nat):Int)≤((p:Nat):Int):=by omega
 have h3:(0:Int)<((p:Nat):Int)+1 - ((s.size:Nat):Int):=by omega
 have hci:((p:Nat):Int)+1 - ((s.size:Nat):Int)=((c:Nat):Int):=by omega
 have hc0:(0:Int)<((c:Nat):Int):=by omega
 have HX:=hid (Tryz.strings_Repeat ⟨#[48]⟩ c w (by omega) (by show 1*c≤_;omega))
 obtain ⟨z,hz⟩:=eX (⟨(Lib.repeatL (⟨#[48]⟩:ByteArray).data.toList c).toArray⟩:ByteArray)
 rw [←hz] at HX
 have hzl:z.data.toList=List.replicate c 48:=by
   rw [hz]
   show Lib.repeatL [48] c=_
   have:=Lib.repeatL_replicate 48 1 c
   rw [Nat.mul_one] at this
   exact this
 have hz2:z.size=c:=by
   show z.data.size=c
   rw [←Array.length_toList,hzl,List.length_replicate]
 obtain ⟨s2,hs2⟩:=eX (z++s:ByteArray)
 have hs2l:s2.data.toList=List.replicate c 48++l:=by rw [hs2,AP',hzl,hs]
 have hs2z:s2.size=p+1:=by
   show s2.data.size=_
   rw [←Array.length_toList,hs2l,List.length_append,List.length_replicate]
   omega
 have HL:=hid hs2l;have HZ:=hid hs2z;have HC:=hid hc
 have HS2:=hid hs2
 have g1:((p:Nat):Int)<((s2.size:Nat):Int):=by omega
 have g3:((z.size:Nat):Int)≤70368744177665:=by omega
 have g4:((s.size:Nat):Int)≤70368744177664:=by omega
 have g2:((s2.size:Nat):Int)≤70368744177665:=by omega
 clear hs hsz h hz hzl hz2 hs2 hs2l hs2z hc
 go_enter Tryz.func77,Tryz.ntmps77
 go_wp2_with fail
 refine (HX.out).mono ?_
 rintro e w1 ⟨rfl,b1⟩
 clear hci
 go_upto_region 6 with fail
 rw [←HS2.out]
 go_wp2_with fail
 go_quiet (fail)
 go_wp2_with fail
 go_ret
 refine ⟨?_,Ae' b1 (Aw w1 _)⟩
 have e:=De (s:=s2) (l:=l) (p:=p) (by rw [HL.out,HC.out]) h0 (by rw [HZ.out];omega)
 rw [←e]
 rfl
theorem Du' {w:World} {l:List UInt8} {p:Nat} (hp:p≤70368744177664) (hl:l.length≤70368744177664) :
   Calls Tryz.prog 77 #[.string ⟨l.toArray⟩,.int .i64 ((p:Nat):Int)] w (BJ w (AX' l p)):=by
 rcases Nat.eq_zero_or_pos p with h0 | h0
 · subst h0
   have:AX' l 0=l:=by unfold AX';rw [if_pos rfl]
   rw [this]
   exact Fb'
 · rcases Nat.lt_or_ge p l.length with h | h
   · exact GU h0 hp hl h
   · exact GU' h0 hp h
def Gg (p:Nat):Nat→Nat→Nat
  | 0,_=>0
  | k+1,n=>if n%p=0∧0<n then Gg p k (n / p)+1 else 0
def vp (p n:Nat):Nat:=Gg p n n
theorem It {p b:Nat} (hp:2≤p) (hb:b%p≠0):∀ (j k:Nat),k≤j→Gg p j (b*p^k)=k:=by
 have hb0:0<b:=by
   rcases Nat.eq_zero_or_pos b with h | h
   · subst h;simp at hb
   · exact h
 intro j
 induction j with
 | zero =>
   intro k hk
   obtain rfl:k=0:=by omega
   rfl
 | succ j ih =>
   intro k hk
   unfold Gg
   match k,hk with
   | 0,_=>rw [Nat.pow_zero,Nat.mul_one,if_neg (fun h=>hb h.1)]
   | k+1,hk =>
     have e:b*p^(k+1)=b*p^k*p:=by rw [Nat.pow_succ,Nat.mul_assoc]
     rw [e,if_pos ⟨Nat.mul_mod_left _ _,Nat.mul_pos (Nat.mul_pos hb0 (Nat.pow_pos (by omega))) (by omega)⟩,Nat.mul_div_cancel _ (by omega),ih k (by omega)]
theorem Ij {p b k:Nat} (hp:2≤p) (hb:b%p≠0):vp p (b*p^k)=k:=by
 have hb0:0<b:=by
   rcases Nat.eq_zero_or_pos b with h | h
   · subst h;simp at hb
   · exact h
 refine It hp hb _ _ ?_
 have h1:k<2^k:=Nat.lt_two_pow_self
 have h2:2^k≤p^k:=Nat.pow_le_pow_left hp k
 have h3:p^k≤b*p^k:=Nat.le_mul_of_pos_left _ hb0
 omega
def Bj' (q:Rat):List UInt8 :=
  (if q.num<0 then [45] else []) ++
    if q.den=2^vp 2 q.den*5^vp 5 q.den then
      AX' (AZ' (q.num.natAbs*5^(max (vp 2 q.den) (vp 5 q.den) - vp 5 q.den)*2^(max (vp 2 q.den) (vp 5 q.den) - vp 2 q.den))) (max (vp 2 q.den) (vp 5 q.den))
    else AZ' q.num.natAbs++[47]++AZ' q.den
theorem Fc (t:Nat):2^t%5=1∨2^t%5=2∨2^t%5=3∨2^t%5=4:=by
 induction t with
 | zero=>left;rfl
 | succ t ih=>rw [Nat.pow_succ];omega
theorem Cq {d b t r f:Nat} (h1:d=b*2^t) (h2:b%2=1) (h3:b=r*5^f) (h4:r%5≠0) :
   vp 2 d=t∧vp 5 d=f∧(d=2^t*5^f↔r=1):=by
 refine ⟨by rw [h1];exact Ij (by omega) (by omega),?_,?_⟩
 · have e:d=r*2^t*5^f:=by rw [h1,h3,Nat.mul_assoc,Nat.mul_comm (5^f),←Nat.mul_assoc]
   rw [e]
   refine Ij (by omega) ?_
   have h5:=Fc t
   have h6:r%5=1∨r%5=2∨r%5=3∨r%5=4:=by omega
   rw [Nat.mul_mod]
   rcases h5 with h | h | h | h <;> rcases h6 with h' | h' | h' | h' <;> rw [h,h'] <;> decide
 · rw [h1,h3]
   have hp:0<5^f*2^t:=Nat.mul_pos (Nat.pow_pos (by omega)) (Nat.pow_pos (by omega))
   constructor
   · intro e
     rw [Nat.mul_comm (2^t),Nat.mul_assoc] at e
     have:r*(5^f*2^t)=1*(5^f*2^t):=by rw [Nat.one_mul];exact e
     exact Nat.eq_of_mul_eq_mul_right hp this
   · intro e
     rw [e,Nat.one_mul,Nat.mul_comm]
theorem Au' {g:Nat} {w w':World} (h:TabAt g Lib.deBruijn64tab w) (hb:Below w.heap.size w w'):TabAt g Lib.deBruijn64tab w':=by
 intro j hj
 have h1:=h j hj
 exact (hb.cell (p:=⟨g,j,none⟩) (bL w _ h1)).trans h1
theorem Cw (n:Nat):(AZ' n).length≤20*len n+1:=by
 unfold AZ'
 split
 · simp
 · unfold BF'
   have:=(List.dropWhile_suffix (l:=digs (20*len n) n) (· == 48)).length_le
   rw [Bx'] at this
   omega
theorem HF' (w:World) {x:Nat} (h0:0<x) (hx:x<W):Nt (w.alloc (.cells #[.int .u64 (x:Nat)] 101)) (.slice (some ⟨w.heap.size,0,none⟩) 1 1) x:=by
 refine ⟨_,1,by rw [BH h0 hx],by rw [BH h0 hx];omega,by omega,fun e=>by omega,fun _=>⟨w.heap.size,0,rfl,by simp,fun j hj=>?_⟩⟩
 rw [BH h0 hx] at hj
 obtain rfl:j=0:=by omega
 rw [cR _ _ _ _ _ _ (hA_ w _)]
 simp [word,Nat.mod_eq_of_lt hx]
theorem Ah'.alloc {wB wS w:World} {G:Nat} (h:Ah' wB G wS w) (hG:G≤wB.heap.size) (o:Obj):Ah' wB G wS (w.alloc o):=h.call hG ((Below.refl _ _).alloc (nL _) _)
theorem Bv' {b p n:Nat} (hb:0<b) (hp:2≤p) (h:len (b*p^n)≤536870912):n≤34359738368:=by
 have:=Dn (n:=n) hb hp
 omega
theorem HH' (w:World):Nt (w.alloc (.cells #[.int .u64 5] 101)) (.slice (some ⟨w.heap.size,0,none⟩) 1 1) 5:=HF' w (x:=5) (by decide) (by rw [BG'];decide)
theorem Ex' (w:World):Nt (w.alloc (.cells #[.int .u64 5] 101)).drew (.slice (some ⟨w.heap.size,0,none⟩) 1 1) 5:=(HH' w).keep ⟨rfl,rfl,rfl,nL _,fun _ _=>rfl⟩
theorem Ah'.plain {wB w:World} {G:Nat} (h:Below G wB w):Ah' wB G w w:=⟨Au h,h,An'.refl w⟩
theorem Ah'.alloc_drew {wB wS w:World} {G:Nat} (h:Ah' wB G wS w) (hG:G≤wB.heap.size) (o:Obj):Ah' wB G wS (w.alloc o).drew :=
 (h.alloc hG o).call hG ⟨rfl,rfl,rfl,nL _,fun _ _=>rfl⟩
theorem CW:len 5=1:=by decide +kernel
theorem Ey {l:List UInt8} {p:Nat} (hl:l.length≤1099511627776) (hp:p≤34359738368):(AX' l p).length≤70368744177664:=by
 unfold AX'
 split
 · omega
 · simp only [List.length_append,List.length_take,List.length_drop,List.length_replicate,List.length_cons,List.length_nil]
   omega
theorem DQ' {a i j:Nat} (ha:len a≤536870912) (hi:i≤34359738368) (hj:j≤34359738368):len (5^i)≤34359738369∧len (a*5^i)≤34896609281∧len (a*5^i*2^j)≤35433480194:=by
 have h1:=CS 5 i
 have h5:len 5=1:=by decide +kernel
 rw [h5] at h1
 have h2:=At' a (5^i)
 have h3:=At' (a*5^i) (2^j)
 have h4:=Fr' j
 omega
theorem De' {w:World} {vx:Value} {x:Rat} (hx:Ac' w vx x) (hs:Aa' x≤536870912) (hT:TabAt 0 Lib.deBruijn64tab w) (hn:x.num<0)
   (hd:¬ x.den=2^vp 2 x.den*5^vp 5 x.den):Calls Tryz.prog 31 #[vx] w (BJ w (Bj' x)):=by
 obtain ⟨A1,c1,A2,c2,rfl,hx1,hx2⟩:=hx.opened
 have hng:decide (x.num<0)=true:=dT_ hn
 have HTX:Hid (Bj' x=[45]++(AZ' x.num.natAbs++[47]++AZ' x.den)):=by
   show _=_
   unfold Bj'
   rw [if_pos hn,if_neg hd]
 have HDD:=hid hd
 have l1:=Ai x
 have l2:=Ai' x
 have HL:=hid (show len x.num.natAbs≤536870912∧len x.den≤536870912 by omega)
 have hd0:0<x.den:=x.den_pos
 rw [hng] at hx ⊢
 obtain ⟨wB,hwB⟩:=eX (w.alloc (.cells #[.bool true,.slice A1 (len x.num.natAbs) c1,.slice A2 (len (below x.den)) c2] 35))
 have b0:Below w.heap.size w wB:=by rw [hwB];exact (Below.refl _ _).alloc (nL _) _
 have gA:wB.heap[w.heap.size]?=some (.cells #[.bool true,.slice A1 (len x.num.natAbs) c1,.slice A2 (len (below x.den)) c2] 35 (0,0)):=by rw [hwB];exact hA_ w _
 obtain ⟨k0,k1,k2⟩:=Ad' gA
 have HSZ:Hid (wB.heap.size=w.heap.size+1):=by show _=_;rw [hwB];simp
 have hxB:=hx.keep b0
 have hx1B:=hx1.keep b0
 have HTB:=hid (Au' hT b0)
 have HB0:=hid b0
 have HC:=hid (AD hxB)
 have hlt1:w.heap.size<w.heap.size+1:=by omega
 clear hng hn hd hs l1 l2 gA b0 hT hx hxB hx1 hx2
 go_enter Tryz.func31,Tryz.ntmps31
 go_wp2_with fail
 rw [←hwB]
 clear hwB
 refine (HC.out).mono ?_
 rintro e w1 ⟨vb,rfl,hvb,b1⟩
 have hT1:=Au' HTB.out b1
 have hx1':=hx1B.keep b1
 have HB1:=hid b1
 have HC2:=hid (CV hvb (nT HL.out.2 (by decide)) hd0 hT1)
 have hvb1:=hvb
 clear b1 HC hT1 hx1B hvb
 go_wp2_with fail
 refine (HC2.out).mono ?_
 rintro e w2 ⟨t,b,rfl,het,hodd,rfl⟩
 have hb0:0<b:=by omega
 have ht36:t≤34359738368:=Bv' (p:=2) hb0 (by omega) (by rw [←het];exact HL.out.2)
 have hti:((t:Nat):Int)≤34359738368:=by omega
 have hshr:x.den / 2^t=b:=by rw [het,Nat.mul_div_cancel _ (Nat.two_pow_pos t)]
 have HC3:=hid (CL' (n:=t) hvb1 (nT HL.out.2 (by decide)) (nT ht36 (by decide)))
 rw [hshr] at HC3
 have HET:=hid het;have HODD:=hid hodd
 clear HC2 hshr het hodd
 go_wp2_with fail
 refine (HC3.out).mono ?_
 rintro e w3 ⟨v3,rfl,hv3,b3⟩
 have hlb:len b≤536870912:=nT (Am (by rw [HET.out];exact Nat.le_mul_of_pos_right _ (Nat.two_pow_pos t))) HL.out.2
 have HC4:=hid (CF' hv3 (nT hlb (by decide)) hb0)
 have hx3:=hx1'.keep b3
 have hvb3:=hvb1.keep b3
 have HB3:=hid (HB1.out.trans (b3.mono HB1.out.size))
 have HLB:=hid hlb
 clear b3 HC3 hlb hx1' hvb1 HB1
 go_wp2_with fail
 refine (HC4.out).mono ?_
 rintro e w4 ⟨r,f,v4,rfl,hv4,hef,hr5,b4⟩
 have hr0:0<r:=by
   rcases Nat.eq_zero_or_pos r with h | h
   · subst h;simp at hr5
   · exact h
 have hf36:f≤34359738368:=Bv' (p:=5) hr0 (by omega) (by rw [←hef];exact HLB.out)
 have hfi:((f:Nat):Int)≤34359738368:=by omega
 have HTP:=hid (Cq HET.out HODD.out hef hr5)
 have HIS:=hid (Bd' hv4)
 have hone:decide (r=1)=false:=by
   obtain ⟨e1,e2,e3⟩:=HTP.out
   have:=HDD.out
   rw [e1,e2,e3] at this
   exact dF_ this
 rw [hone] at HIS
 have hx4:=hx3.keep b4
 have hvb4:=hvb3.keep b4
 have HB4:=hid (HB3.out.trans (b4.mono HB3.out.size))
 clear hone b4 hef hr5 hx3 hvb3 HB3 HC4 hv3 hv4
 have hc4:=Au (show Below (w.heap.size+1) wB w4 from by rw [←HSZ.out];exact HB4.out)
 go_wp2_with fail
 refine (HIS.out).mono ?_
 rintro e w5 ⟨rfl,rfl⟩
 have HD1:=hid (BP' hx4 (nT HL.out.1 (by decide)))
 have z1:=Cw x.num.natAbs
 have z2:=Cw x.den
 have HZ:=hid (And.intro z1 z2)
 clear z1 z2
 go_wp2_with fail
 refine (HD1.out).mono ?_
 rintro e w6 ⟨rfl,b6⟩
 have hvb6:=hvb4.keep b6
 have HD2:=hid (BP' hvb6 (nT HL.out.2 (by decide)))
 have HB6:=hid (HB4.out.trans (b6.mono HB4.out.size))
 obtain ⟨s1,hs1⟩:=eX (⟨(AZ' x.num.natAbs).toArray⟩:ByteArray)
 rw [←hs1]
 have g1:((s1.size:Nat):Int)≤10737418241:=by
   have:s1.size=(AZ' x.num.natAbs).length:=by rw [hs1];rfl
   have:=HZ.out.1;have:=HL.out.1
   omega
 have HS1:=hid hs1
 clear hs1 b6 HD1
 go_wp2_with fail
 refine (HD2.out).mono ?_
 rintro e w7 ⟨rfl,b7⟩
 obtain ⟨s2,hs2⟩:=eX (⟨(AZ' x.den).toArray⟩:ByteArray)
 rw [←hs2]
 have g2:((s2.size:Nat):Int)≤10737418241:=by
   have:s2.size=(AZ' x.den).length:=by rw [hs2];rfl
   have:=HZ.out.2;have:=HL.out.2
   omega
 have HS2:=hid hs2
 have HF:=hid (HB0.out.trans ((HB6.out.trans (b7.mono HB6.out.size)).mono HB0.out.size))
 clear hs2 b7 HD2
 go_wp2_with fail
 go_ret
 refine ⟨?_,HF.out⟩
 rw [HTX.out]
 have e:=CA (b:=⟨#[45]⟩++s1++⟨#[47]⟩++s2) (l:=[45]++(AZ' x.num.natAbs++[47]++AZ' x.den)) (by rw [AP',AP',AP',HS1.out,HS2.out];simp)
 rw [←e]
 rfl
theorem C6' {w:World} {vx:Value} {x:Rat} (hx:Ac' w vx x) (hs:Aa' x≤536870912) (hT:TabAt 0 Lib.deBruijn64tab w) (hn:x.num<0)
   (hd:x.den=2^vp 2 x.den*5^vp 5 x.den):Calls Tryz.prog 31 #[vx] w (BJ w (Bj' x)):=by
 obtain ⟨A1,c1,A2,c2,rfl,hx1,hx2⟩:=hx.opened
 have hng:decide (x.num<0)=true:=dT_ hn
 have HTX:Hid (Bj' x=[45]++AX' (AZ' (x.num.natAbs*5^(max (vp 2 x.den) (vp 5 x.den) - vp 5 x.den)*2^(max (vp 2 x.den) (vp 5 x.den) - vp 2 x.den))) (max (vp 2 x.den) (vp 5 x.den))):=by
   show _=_
   unfold Bj'
   rw [if_pos hn,if_pos hd]
 have HDD:=hid hd
 have l1:=Ai x
 have l2:=Ai' x
 have HL:=hid (show len x.num.natAbs≤536870912∧len x.den≤536870912 by omega)
 have hd0:0<x.den:=x.den_pos
 rw [hng] at hx ⊢
 obtain ⟨wB,hwB⟩:=eX (w.alloc (.cells #[.bool true,.slice A1 (len x.num.natAbs) c1,.slice A2 (len (below x.den)) c2] 35))
 have b0:Below w.heap.size w wB:=by rw [hwB];exact (Below.refl _ _).alloc (nL _) _
 have gA:wB.heap[w.heap.size]?=some (.cells #[.bool true,.slice A1 (len x.num.natAbs) c1,.slice A2 (len (below x.den)) c2] 35 (0,0)):=by rw [hwB];exact hA_ w _
 obtain ⟨k0,k1,k2⟩:=Ad' gA
 have HSZ:Hid (wB.heap.size=w.heap.size+1):=by show _=_;rw [hwB];simp
 have hxB:=hx.keep b0
 have hx1B:=hx1.keep b0
 have HTB:=hid (Au' hT b0)
 have HB0:=hid b0
 have HC:=hid (AD hxB)
 have hlt1:w.heap.size<w.heap.size+1:=by omega
 clear hng hn hd hs l1 l2 gA b0 hT hx hxB hx1 hx2
 go_enter Tryz.func31,Tryz.ntmps31
 go_wp2_with fail
 rw [←hwB]
 clear hwB
 refine (HC.out).mono ?_
 rintro e w1 ⟨vb,rfl,hvb,b1⟩
 have hT1:=Au' HTB.out b1
 have hx1':=hx1B.keep b1
 have HB1:=hid b1
 have HC2:=hid (CV hvb (nT HL.out.2 (by decide)) hd0 hT1)
 have hvb1:=hvb
 clear b1 HC hT1 hx1B hvb
 go_wp2_with fail
 refine (HC2.out).mono ?_
 rintro e w2 ⟨t,b,rfl,het,hodd,rfl⟩
 have hb0:0<b:=by omega
 have ht36:t≤34359738368:=Bv' (p:=2) hb0 (by omega) (by rw [←het];exact HL.out.2)
 have hti:((t:Nat):Int)≤34359738368:=by omega
 have hshr:x.den / 2^t=b:=by rw [het,Nat.mul_div_cancel _ (Nat.two_pow_pos t)]
 have HC3:=hid (CL' (n:=t) hvb1 (nT HL.out.2 (by decide)) (nT ht36 (by decide)))
 rw [hshr] at HC3
 have HET:=hid het;have HODD:=hid hodd
 clear HC2 hshr het hodd
 go_wp2_with fail
 refine (HC3.out).mono ?_
 rintro e w3 ⟨v3,rfl,hv3,b3⟩
 have hlb:len b≤536870912:=nT (Am (by rw [HET.out];exact Nat.le_mul_of_pos_right _ (Nat.two_pow_pos t))) HL.out.2
 have HC4:=hid (CF' hv3 (nT hlb (by decide)) hb0)
 have hx3:=hx1'.keep b3
 have hvb3:=hvb1.keep b3
 have HB3:=hid (HB1.out.trans (b3.mono HB1.out.size))
 have HLB:=hid hlb
 clear b3 HC3 hlb hx1' hvb1 HB1
 go_wp2_with fail
 refine (HC4.out).mono ?_
 rintro e w4 ⟨r,f,v4,rfl,hv4,hef,hr5,b4⟩
 have hr0:0<r:=by
   rcases Nat.eq_zero_or_pos r with h | h
   · subst h;simp at hr5
   · exact h
 have hf36:f≤34359738368:=Bv' (p:=5) hr0 (by omega) (by rw [←hef];exact HLB.out)
 have hfi:((f:Nat):Int)≤34359738368:=by omega
 have HTP:=hid (Cq HET.out HODD.out hef hr5)
 have HIS:=hid (Bd' hv4)
 have hone:decide (r=1)=true:=by
   obtain ⟨e1,e2,e3⟩:=HTP.out
   have:=HDD.out
   rw [e1,e2,e3] at this
   exact dT_ this
 rw [hone] at HIS
 have hx4:=hx3.keep b4
 have hvb4:=hvb3.keep b4
 have HB4:=hid (HB3.out.trans (b4.mono HB3.out.size))
 clear hone b4 hef hr5 hx3 hvb3 HB3 HC4 hv3 hv4
 have hc4:=Au (show Below (w.heap.size+1) wB w4 from by rw [←HSZ.out];exact HB4.out)
 go_wp2_with fail
 refine (HIS.out).mono ?_
 rintro e w5 ⟨rfl,rfl⟩
 obtain ⟨m,hmd⟩:=eX (max t f)
 have hm:max ((t:Nat):Int) ((f:Nat):Int)=((m:Nat):Int):=by omega
 have HMD:=hid hmd
 have hmt:t≤m:=by omega
 have hmf:f≤m:=by omega
 have hm36:m≤34359738368:=by omega
 have hmi:((m:Nat):Int)≤34359738368:=by omega
 have q1:IntKind.i64.wrap (((m:Nat):Int) - ((f:Nat):Int))=((m - f:Nat):Int):=by rw [IntKind.wrap_i64];omega
 have q2:IntKind.i64.wrap (((m:Nat):Int) - ((t:Nat):Int))=((m - t:Nat):Int):=by rw [IntKind.wrap_i64];omega
 have q3:((m - t:Nat):Int)≤34359738368:=by omega
 have q4:IntKind.u64.wrap ((m - t:Nat):Int)=((m - t:Nat):Int):=Cb' (by omega)
 have Q4:=hid q4
 have HSC:=hid (DQ' (a:=x.num.natAbs) (i:=m - f) (j:=m - t) HL.out.1 (by omega) (by omega))
 have hbG:Below (w.heap.size+1) wB w4:=by rw [←HSZ.out];exact HB4.out
 have H4:=Ah'.begin (wS:=w4) hbG rfl
 have HG:=Nat.le_of_eq HSZ.out.symm
 have H4a:Ah' wB (w.heap.size+1) w4 (w4.alloc (.cells #[.int .u64 5] 101)).drew:=(Ah'.plain hbG).alloc_drew HG _
 have H5n:=Ex' w4
 have H4i:(∀ b o,b<w.heap.size+1→w4.drew.cell? ⟨b,o,none⟩=wB.cell? ⟨b,o,none⟩)∧Below (w.heap.size+1) wB w4.drew∧An' w4 w4.drew:=H4
 have H4j:(∀ b o,b<w.heap.size+1→(w4.alloc (.cells #[.int .u64 5] 101)).drew.cell? ⟨b,o,none⟩=wB.cell? ⟨b,o,none⟩)∧Below (w.heap.size+1) wB (w4.alloc (.cells #[.int .u64 5] 101)).drew∧An' w4 (w4.alloc (.cells #[.int .u64 5] 101)).drew:=H4a
 clear hmd hmt hmf hbG
 go_upto_region 10 with fail
 try rw [hm]
 clear hm
 go_region_held3 (fun w'=>(∀ b o,b<w.heap.size+1→w'.cell? ⟨b,o,none⟩=wB.cell? ⟨b,o,none⟩)∧Below (w.heap.size+1) wB w'∧An' w4 w')
   (first | with_reducible exact H4i | with_reducible exact H4j | exact hk7 | exact hk6 | exact hk5)
   (first | (go_at_call 75;refine (FK (w:=(w4.alloc (.cells #[.int .u64 5] 101)).drew) (a:=5) (n:=m - f) H5n (by omega) (by rw [CW];omega) (by rw [CW];decide)).mono ?_;rintro e w5 ⟨v5,rfl,hv5,hbl5⟩;have hk5:=Ah'.call H4a HG hbl5) | (go_at_call 64;refine (AS (hk5.2.2 _ _ hx4) hv5 (nT HL.out.1 (by decide)) (nT HSC.out.1 (by decide))).mono ?_;rintro e w6 ⟨v6,rfl,hv6,hbl6⟩;have hk6:=Ah'.call hk5 HG hbl6) | (go_at_call 76;(try rw [Q4.out]);refine (Dk' (n:=m - t) hv6 (nT HSC.out.2.1 (by decide)) (by omega)).mono ?_;rintro e w7 ⟨v7,rfl,hv7,hbl7⟩;have hk7:=Ah'.call hk6 HG hbl7))
 rename_i hHl
 clear hHl q1 q2 q4
 have HD1:=hid (BP' hv7 (nT HSC.out.2.2 (by decide)))
 have HZ:=hid (Cw (x.num.natAbs*5^(m - f)*2^(m - t)))
 have HB7:=hid (HB0.out.trans (hk7.2.1.mono (Nat.le_succ _)))
 clear hk5 hk6 hbl5 hbl6 hbl7 hv5 hv6 hv7 H4 hc4
 go_wp2_with fail
 refine (HD1.out).mono ?_
 rintro e w8 ⟨rfl,b8⟩
 have HPT:=hid (Du' (w:=w8) (l:=AZ' (x.num.natAbs*5^(m - f)*2^(m - t))) (p:=m) (by omega) (by have:=HZ.out;have:=HSC.out.2.2;omega))
 have HZ2:=hid (Ey (l:=AZ' (x.num.natAbs*5^(m - f)*2^(m - t))) (p:=m) (by have:=HZ.out;have:=HSC.out.2.2;omega) hm36)
 have HB8:=hid (Ae' HB7.out b8)
 clear b8 HD1
 go_wp2_with fail
 refine (HPT.out).mono ?_
 rintro e w9 ⟨rfl,b9⟩
 obtain ⟨s1,hs1⟩:=eX (⟨(AX' (AZ' (x.num.natAbs*5^(m - f)*2^(m - t))) m).toArray⟩:ByteArray)
 rw [←hs1]
 have g1:((s1.size:Nat):Int)≤70368744177664:=by
   have:s1.size=(AX' (AZ' (x.num.natAbs*5^(m - f)*2^(m - t))) m).length:=by rw [hs1];rfl
   have:=HZ2.out
   omega
 have HS1:=hid hs1
 have HF:=hid (Ae' HB8.out b9)
 clear hs1 b9 HPT
 go_wp2_with fail
 go_ret
 refine ⟨?_,HF.out⟩
 rw [HTX.out]
 have e:=CA (b:=⟨#[45]⟩++s1) (l:=[45]++AX' (AZ' (x.num.natAbs*5^(m - f)*2^(m - t))) m) (by rw [AP',HS1.out])
 obtain ⟨e1,e2,e3⟩:=HTP.out
 rw [e1,e2,←HMD.out,←e]
 rfl
theorem Df {w:World} {vx:Value} {x:Rat} (hx:Ac' w vx x) (hs:Aa' x≤536870912) (hT:TabAt 0 Lib.deBruijn64tab w) (hn:¬ x.num<0)
   (hd:¬ x.den=2^vp 2 x.den*5^vp 5 x.den):Calls Tryz.prog 31 #[vx] w (BJ w (Bj' x)):=by
 obtain ⟨A1,c1,A2,c2,rfl,hx1,hx2⟩:=hx.opened
 have hng:decide (x.num<0)=false:=dF_ hn
 have HTX:Hid (Bj' x=[]++(AZ' x.num.natAbs++[47]++AZ' x.den)):=by
   show _=_
   unfold Bj'
   rw [if_neg hn,if_neg hd]
 have HDD:=hid hd
 have l1:=Ai x
 have l2:=Ai' x
 have HL:=hid (show len x.num.natAbs≤536870912∧len x.den≤536870912 by omega)
 have hd0:0<x.den:=x.den_pos
 rw [hng] at hx ⊢
 obtain ⟨wB,hwB⟩:=eX (w.alloc (.cells #[.bool false,.slice A1 (len x.num.natAbs) c1,.slice A2 (len (below x.den)) c2] 35))
 have b0:Below w.heap.size w wB:=by rw [hwB];exact (Below.refl _ _).alloc (nL _) _
 have gA:wB.heap[w.heap.size]?=some (.cells #[.bool false,.slice A1 (len x.num.natAbs) c1,.slice A2 (len (below x.den)) c2] 35 (0,0)):=by rw [hwB];exact hA_ w _
 obtain ⟨k0,k1,k2⟩:=Ad' gA
 have HSZ:Hid (wB.heap.size=w.heap.size+1):=by show _=_;rw [hwB];simp
 have hxB:=hx.keep b0
 have hx1B:=hx1.keep b0
 have HTB:=hid (Au' hT b0)
 have HB0:=hid b0
 have HC:=hid (AD hxB)
 have hlt1:w.heap.size<w.heap.size+1:=by omega
 clear hng hn hd hs l1 l2 gA b0 hT hx hxB hx1 hx2
 go_enter Tryz.func31,Tryz.ntmps31
 go_wp2_with fail
 rw [←hwB]
 clear hwB
 refine (HC.out).mono ?_
 rintro e w1 ⟨vb,rfl,hvb,b1⟩
 have hT1:=Au' HTB.out b1
 have hx1':=hx1B.keep b1
 have HB1:=hid b1
 have HC2:=hid (CV hvb (nT HL.out.2 (by decide)) hd0 hT1)
 have hvb1:=hvb
 clear b1 HC hT1 hx1B hvb
 go_wp2_with fail
 refine (HC2.out).mono ?_
 rintro e w2 ⟨t,b,rfl,het,hodd,rfl⟩
 have hb0:0<b:=by omega
 have ht36:t≤34359738368:=Bv' (p:=2) hb0 (by omega) (by rw [←het];exact HL.out.2)
 have hti:((t:Nat):Int)≤34359738368:=by omega
 have hshr:x.den / 2^t=b:=by rw [het,Nat.mul_div_cancel _ (Nat.two_pow_pos t)]
 have HC3:=hid (CL' (n:=t) hvb1 (nT HL.out.2 (by decide)) (nT ht36 (by decide)))
 rw [hshr] at HC3
 have HET:=hid het;have HODD:=hid hodd
 clear HC2 hshr het hodd
 go_wp2_with fail
 refine (HC3.out).mono ?_
 rintro e w3 ⟨v3,rfl,hv3,b3⟩
 have hlb:len b≤536870912:=nT (Am (by rw [HET.out];exact Nat.le_mul_of_pos_right _ (Nat.two_pow_pos t))) HL.out.2
 have HC4:=hid (CF' hv3 (nT hlb (by decide)) hb0)
 have hx3:=hx1'.keep b3
 have hvb3:=hvb1.keep b3
 have HB3:=hid (HB1.out.trans (b3.mono HB1.out.size))
 have HLB:=hid hlb
 clear b3 HC3 hlb hx1' hvb1 HB1
 go_wp2_with fail
 refine (HC4.out).mono ?_
 rintro e w4 ⟨r,f,v4,rfl,hv4,hef,hr5,b4⟩
 have hr0:0<r:=by
   rcases Nat.eq_zero_or_pos r with h | h
   · subst h;simp at hr5
   · exact h
 have hf36:f≤34359738368:=Bv' (p:=5) hr0 (by omega) (by rw [←hef];exact HLB.out)
 have hfi:((f:Nat):Int)≤34359738368:=by omega
 have HTP:=hid (Cq HET.out HODD.out hef hr5)
 have HIS:=hid (Bd' hv4)
 have hone:decide (r=1)=false:=by
   obtain ⟨e1,e2,e3⟩:=HTP.out
   have:=HDD.out
   rw [e1,e2,e3] at this
   exact dF_ this
 rw [hone] at HIS
 have hx4:=hx3.keep b4
 have hvb4:=hvb3.keep b4
 have HB4:=hid (HB3.out.trans (b4.mono HB3.out.size))
 clear hone b4 hef hr5 hx3 hvb3 HB3 HC4 hv3 hv4
 have hc4:=Au (show Below (w.heap.size+1) wB w4 from by rw [←HSZ.out];exact HB4.out)
 go_wp2_with fail
 refine (HIS.out).mono ?_
 rintro e w5 ⟨rfl,rfl⟩
 have HD1:=hid (BP' hx4 (nT HL.out.1 (by decide)))
 have z1:=Cw x.num.natAbs
 have z2:=Cw x.den
 have HZ:=hid (And.intro z1 z2)
 clear z1 z2
 go_wp2_with fail
 refine (HD1.out).mono ?_
 rintro e w6 ⟨rfl,b6⟩
 have hvb6:=hvb4.keep b6
 have HD2:=hid (BP' hvb6 (nT HL.out.2 (by decide)))
 have HB6:=hid (HB4.out.trans (b6.mono HB4.out.size))
 obtain ⟨s1,hs1⟩:=eX (⟨(AZ' x.num.natAbs).toArray⟩:ByteArray)
 rw [←hs1]
 have g1:((s1.size:Nat):Int)≤10737418241:=by
   have:s1.size=(AZ' x.num.natAbs).length:=by rw [hs1];rfl
   have:=HZ.out.1;have:=HL.out.1
   omega
 have HS1:=hid hs1
 clear hs1 b6 HD1
 go_wp2_with fail
 refine (HD2.out).mono ?_
 rintro e w7 ⟨rfl,b7⟩
 obtain ⟨s2,hs2⟩:=eX (⟨(AZ' x.den).toArray⟩:ByteArray)
 rw [←hs2]
 have g2:((s2.size:Nat):Int)≤10737418241:=by
   have:s2.size=(AZ' x.den).length:=by rw [hs2];rfl
   have:=HZ.out.2;have:=HL.out.2
   omega
 have HS2:=hid hs2
 have HF:=hid (HB0.out.trans ((HB6.out.trans (b7.mono HB6.out.size)).mono HB0.out.size))
 clear hs2 b7 HD2
 go_wp2_with fail
 go_ret
 refine ⟨?_,HF.out⟩
 rw [HTX.out]
 have e:=CA (b:=⟨#[]⟩++s1++⟨#[47]⟩++s2) (l:=[]++(AZ' x.num.natAbs++[47]++AZ' x.den)) (by rw [AP',AP',AP',HS1.out,HS2.out];simp)
 rw [←e]
 rfl
theorem C7' {w:World} {vx:Value} {x:Rat} (hx:Ac' w vx x) (hs:Aa' x≤536870912) (hT:TabAt 0 Lib.deBruijn64tab w) (hn:¬ x.num<0)
   (hd:x.den=2^vp 2 x.den*5^vp 5 x.den):Calls Tryz.prog 31 #[vx] w (BJ w (Bj' x)):=by
 obtain ⟨A1,c1,A2,c2,rfl,hx1,hx2⟩:=hx.opened
 have hng:decide (x.num<0)=false:=dF_ hn
 have HTX:Hid (Bj' x=[]++AX' (AZ' (x.num.natAbs*5^(max (vp 2 x.den) (vp 5 x.den) - vp 5 x.den)*2^(max (vp 2 x.den) (vp 5 x.den) - vp 2 x.den))) (max (vp 2 x.den) (vp 5 x.den))):=by
   show _=_
   unfold Bj'
   rw [if_neg hn,if_pos hd]
 have HDD:=hid hd
 have l1:=Ai x
 have l2:=Ai' x
 have HL:=hid (show len x.num.natAbs≤536870912∧len x.den≤536870912 by omega)
 have hd0:0<x.den:=x.den_pos
 rw [hng] at hx ⊢
 obtain ⟨wB,hwB⟩:=eX (w.alloc (.cells #[.bool false,.slice A1 (len x.num.natAbs) c1,.slice A2 (len (below x.den)) c2] 35))
 have b0:Below w.heap.size w wB:=by rw [hwB];exact (Below.refl _ _).alloc (nL _) _
 have gA:wB.heap[w.heap.size]?=some (.cells #[.bool false,.slice A1 (len x.num.natAbs) c1,.slice A2 (len (below x.den)) c2] 35 (0,0)):=by rw [hwB];exact hA_ w _
 obtain ⟨k0,k1,k2⟩:=Ad' gA
 have HSZ:Hid (wB.heap.size=w.heap.size+1):=by show _=_;rw [hwB];simp
 have hxB:=hx.keep b0
 have hx1B:=hx1.keep b0
 have HTB:=hid (Au' hT b0)
 have HB0:=hid b0
 have HC:=hid (AD hxB)
 have hlt1:w.heap.size<w.heap.size+1:=by omega
 clear hng hn hd hs l1 l2 gA b0 hT hx hxB hx1 hx2
 go_enter Tryz.func31,Tryz.ntmps31
 go_wp2_with fail
 rw [←hwB]
 clear hwB
 refine (HC.out).mono ?_
 rintro e w1 ⟨vb,rfl,hvb,b1⟩
 have hT1:=Au' HTB.out b1
 have hx1':=hx1B.keep b1
 have HB1:=hid b1
 have HC2:=hid (CV hvb (nT HL.out.2 (by decide)) hd0 hT1)
 have hvb1:=hvb
 clear b1 HC hT1 hx1B hvb
 go_wp2_with fail
 refine (HC2.out).mono ?_
 rintro e w2 ⟨t,b,rfl,het,hodd,rfl⟩
 have hb0:0<b:=by omega
 have ht36:t≤34359738368:=Bv' (p:=2) hb0 (by omega) (by rw [←het];exact HL.out.2)
 have hti:((t:Nat):Int)≤34359738368:=by omega
 have hshr:x.den / 2^t=b:=by rw [het,Nat.mul_div_cancel _ (Nat.two_pow_pos t)]
 have HC3:=hid (CL' (n:=t) hvb1 (nT HL.out.2 (by decide)) (nT ht36 (by decide)))
 rw [hshr] at HC3
 have HET:=hid het;have HODD:=hid hodd
 clear HC2 hshr het hodd
 go_wp2_with fail
 refine (HC3.out).mono ?_
 rintro e w3 ⟨v3,rfl,hv3,b3⟩
 have hlb:len b≤536870912:=nT (Am (by rw [HET.out];exact Nat.le_mul_of_pos_right _ (Nat.two_pow_pos t))) HL.out.2
 have HC4:=hid (CF' hv3 (nT hlb (by decide)) hb0)
 have hx3:=hx1'.keep b3
 have hvb3:=hvb1.keep b3
 have HB3:=hid (HB1.out.trans (b3.mono HB1.out.size))
 have HLB:=hid hlb
 clear b3 HC3 hlb hx1' hvb1 HB1
 go_wp2_with fail
 refine (HC4.out).mono ?_
 rintro e w4 ⟨r,f,v4,rfl,hv4,hef,hr5,b4⟩
 have hr0:0<r:=by
   rcases Nat.eq_zero_or_pos r with h | h
   · subst h;simp at hr5
   · exact h
 have hf36:f≤34359738368:=Bv' (p:=5) hr0 (by omega) (by rw [←hef];exact HLB.out)
 have hfi:((f:Nat):Int)≤34359738368:=by omega
 have HTP:=hid (Cq HET.out HODD.out hef hr5)
 have HIS:=hid (Bd' hv4)
 have hone:decide (r=1)=true:=by
   obtain ⟨e1,e2,e3⟩:=HTP.out
   have:=HDD.out
   rw [e1,e2,e3] at this
   exact dT_ this
 rw [hone] at HIS
 have hx4:=hx3.keep b4
 have hvb4:=hvb3.keep b4
 have HB4:=hid (HB3.out.trans (b4.mono HB3.out.size))
 clear hone b4 hef hr5 hx3 hvb3 HB3 HC4 hv3 hv4
 have hc4:=Au (show Below (w.heap.size+1) wB w4 from by rw [←HSZ.out];exact HB4.out)
 go_wp2_with fail
 refine (HIS.out).mono ?_
 rintro e w5 ⟨rfl,rfl⟩
 obtain ⟨m,hmd⟩:=eX (max t f)
 have hm:max ((t:Nat):Int) ((f:Nat):Int)=((m:Nat):Int):=by omega
 have HMD:=hid hmd
 have hmt:t≤m:=by omega
 have hmf:f≤m:=by omega
 have hm36:m≤34359738368:=by omega
 have hmi:((m:Nat):Int)≤34359738368:=by omega
 have q1:IntKind.i64.wrap (((m:Nat):Int) - ((f:Nat):Int))=((m - f:Nat):Int):=by rw [IntKind.wrap_i64];omega
 have q2:IntKind.i64.wrap (((m:Nat):Int) - ((t:Nat):Int))=((m - t:Nat):Int):=by rw [IntKind.wrap_i64];omega
 have q3:((m - t:Nat):Int)≤34359738368:=by omega
 have q4:IntKind.u64.wrap ((m - t:Nat):Int)=((m - t:Nat):Int):=Cb' (by omega)
 have Q4:=hid q4
 have HSC:=hid (DQ' (a:=x.num.natAbs) (i:=m - f) (j:=m - t) HL.out.1 (by omega) (by omega))
 have hbG:Below (w.heap.size+1) wB w4:=by rw [←HSZ.out];exact HB4.out
 have H4:=Ah'.begin (wS:=w4) hbG rfl
 have HG:=Nat.le_of_eq HSZ.out.symm
 have H4a:Ah' wB (w.heap.size+1) w4 (w4.alloc (.cells #[.int .u64 5] 101)).drew:=(Ah'.plain hbG).alloc_drew HG _
 have H5n:=Ex' w4
 have H4i:(∀ b o,b<w.heap.size+1→w4.drew.cell? ⟨b,o,none⟩=wB.cell? ⟨b,o,none⟩)∧Below (w.heap.size+1) wB w4.drew∧An' w4 w4.drew:=H4
 have H4j:(∀ b o,b<w.heap.size+1→(w4.alloc (.cells #[.int .u64 5] 101)).drew.cell? ⟨b,o,none⟩=wB.cell? ⟨b,o,none⟩)∧Below (w.heap.size+1) wB (w4.alloc (.cells #[.int .u64 5] 101)).drew∧An' w4 (w4.alloc (.cells #[.int .u64 5] 101)).drew:=H4a
 clear hmd hmt hmf hbG
 go_upto_region 10 with fail
 try rw [hm]
 clear hm
 go_region_held3 (fun w'=>(∀ b o,b<w.heap.size+1→w'.cell? ⟨b,o,none⟩=wB.cell? ⟨b,o,none⟩)∧Below (w.heap.size+1) wB w'∧An' w4 w')
   (first | with_reducible exact H4i | with_reducible exact H4j | exact hk7 | exact hk6 | exact hk5)
   (first | (go_at_call 75;refine (FK (w:=(w4.alloc (.cells #[.int .u64 5] 101)).drew) (a:=5) (n:=m - f) H5n (by omega) (by rw [CW];omega) (by rw [CW];decide)).mono ?_;rintro e w5 ⟨v5,rfl,hv5,hbl5⟩;have hk5:=Ah'.call H4a HG hbl5) | (go_at_call 64;refine (AS (hk5.2.2 _ _ hx4) hv5 (nT HL.out.1 (by decide)) (nT HSC.out.1 (by decide))).mono ?_;rintro e w6 ⟨v6,rfl,hv6,hbl6⟩;have hk6:=Ah'.call hk5 HG hbl6) | (go_at_call 76;(try rw [Q4.out]);refine (Dk' (n:=m - t) hv6 (nT HSC.out.2.1 (by decide)) (by omega)).mono ?_;rintro e w7 ⟨v7,rfl,hv7,hbl7⟩;have hk7:=Ah'.call hk6 HG hbl7))
 rename_i hHl
 clear hHl q1 q2 q4
 have HD1:=hid (BP' hv7 (nT HSC.out.2.2 (by decide)))
 have HZ:=hid (Cw (x.num.natAbs*5^(m - f)*2^(m - t)))
 have HB7:=hid (HB0.out.trans (hk7.2.1.mono (Nat.le_succ _)))
 clear hk5 hk6 hbl5 hbl6 hbl7 hv5 hv6 hv7 H4 hc4
 go_wp2_with fail
 refine (HD1.out).mono ?_
 rintro e w8 ⟨rfl,b8⟩
 have HPT:=hid (Du' (w:=w8) (l:=AZ' (x.num.natAbs*5^(m - f)*2^(m - t))) (p:=m) (by omega) (by have:=HZ.out;have:=HSC.out.2.2;omega))
 have HZ2:=hid (Ey (l:=AZ' (x.num.natAbs*5^(m - f)*2^(m - t))) (p:=m) (by have:=HZ.out;have:=HSC.out.2.2;omega) hm36)
 have HB8:=hid (Ae' HB7.out b8)
 clear b8 HD1
 go_wp2_with fail
 refine (HPT.out).mono ?_
 rintro e w9 ⟨rfl,b9⟩
 obtain ⟨s1,hs1⟩:=eX (⟨(AX' (AZ' (x.num.natAbs*5^(m - f)*2^(m - t))) m).toArray⟩:ByteArray)
 rw [←hs1]
 have g1:((s1.size:Nat):Int)≤70368744177664:=by
   have:s1.size=(AX' (AZ' (x.num.natAbs*5^(m - f)*2^(m - t))) m).length:=by rw [hs1];rfl
   have:=HZ2.out
   omega
 have HS1:=hid hs1
 have HF:=hid (Ae' HB8.out b9)
 clear hs1 b9 HPT
 go_wp2_with fail
 go_ret
 refine ⟨?_,HF.out⟩
 rw [HTX.out]
 have e:=CA (b:=⟨#[]⟩++s1) (l:=[]++AX' (AZ' (x.num.natAbs*5^(m - f)*2^(m - t))) m) (by rw [AP',HS1.out])
 obtain ⟨e1,e2,e3⟩:=HTP.out
 rw [e1,e2,←HMD.out,←e]
 rfl
theorem EK' {w:World} {vx:Value} {x:Rat} (hx:Ac' w vx x) (hs:Aa' x≤536870912) (hT:TabAt 0 Lib.deBruijn64tab w) :
   Calls Tryz.prog 31 #[vx] w (BJ w (Bj' x)):=by
 by_cases h1:x.num<0 <;> by_cases h2:x.den=2^vp 2 x.den*5^vp 5 x.den
 · exact C6' hx hs hT h1 h2
 · exact De' hx hs hT h1 h2
 · exact C7' hx hs hT h1 h2
 · exact Df hx hs hT h1 h2
def digC (c:UInt8):Bool:=decide (48≤c.toNat∧c.toNat≤57)
def digB (l:List UInt8):Bool := !l.isEmpty && l.all digC
def Fc' (l:List UInt8):Bool:=digB l && (l.headD 0 != 48 || l==[48])
def HI' (l:List UInt8):Nat:=l.foldl (fun v c=>v*10+(c.toNat - 48)) 0
def IS (l:List UInt8):Option Rat :=
  if (Lib.cut (Lib.trimPrefix l [45]) [47]).2.2=true then
    if Fc' (Lib.cut (Lib.trimPrefix l [45]) [47]).1=true∧Fc' (Lib.cut (Lib.trimPrefix l [45]) [47]).2.1=true∧(Lib.cut (Lib.trimPrefix l [45]) [47]).2.1≠[48] then
      some (mkRat (sgn (Lib.hasPrefix l [45]) (HI' (Lib.cut (Lib.trimPrefix l [45]) [47]).1)) (HI' (Lib.cut (Lib.trimPrefix l [45]) [47]).2.1))
    else none
  else
    if Fc' (Lib.cut (Lib.trimPrefix l [45]) [46]).1=true∧((Lib.cut (Lib.trimPrefix l [45]) [46]).2.2=true→digB (Lib.cut (Lib.trimPrefix l [45]) [46]).2.1=true) then
      some (mkRat (sgn (Lib.hasPrefix l [45]) (HI' ((Lib.cut (Lib.trimPrefix l [45]) [46]).1++(Lib.cut (Lib.trimPrefix l [45]) [46]).2.1))) (10^(Lib.cut (Lib.trimPrefix l [45]) [46]).2.1.length))
    else none
def IS' (s:ByteArray):Rat × Int :=
  if 2000<s.size then (0,5) else
    match IS s.data.toList with
    | none=>(0,4)
    | some q=>(q,0)
def AI' (w:World) (b:Bool) (e:Ending) (w':World):Prop:=e=.returned (.bool b)∧Below w.heap.size w w'
def Cq' (w:World) (B:Nat) (v0 v1 v2:Value):Prop:=w.cell? ⟨B,0,none⟩=some v0∧w.cell? ⟨B,1,none⟩=some v1∧w.cell? ⟨B,2,none⟩=some v2
theorem Cq'.call {w w':World} {B:Nat} {v0 v1 v2:Value} (h:Cq' w B v0 v1 v2) (hb:Below w.heap.size w w'):Cq' w' B v0 v1 v2:=by
 have hl:=bL w _ h.1
 exact ⟨(hb.cell (p:=⟨B,0,none⟩) hl).trans h.1,(hb.cell (p:=⟨B,1,none⟩) hl).trans h.2.1,(hb.cell (p:=⟨B,2,none⟩) hl).trans h.2.2⟩
theorem Cq'.drew {w:World} {B:Nat} {v0 v1 v2:Value} (h:Cq' w B v0 v1 v2):Cq' w.drew B v0 v1 v2:=h.call ⟨rfl,rfl,rfl,nL _,fun _ _=>rfl⟩
theorem Cq'.put {w:World} {B G:Nat} {v0 v1 v2:Value} (h:Cq' w B v0 v1 v2) (hne:B≠G) (i:Nat) (v:Value):Cq' (w.setCell ⟨G,i,none⟩ v) B v0 v1 v2:=by
 refine ⟨?_,?_,?_⟩ <;> rw [World.cell?_setCell_other _ _ _ _ (by intro e;injection e with e1;omega)]
 · exact h.1
 · exact h.2.1
 · exact h.2.2
def Ao' (w:World) (v:Value) (a b:Rat):Prop :=
  ∃ v1 v2 v3 v4,v=.agg #[.bool (decide (a.num<0)),v1,v2,.bool (decide (b.num<0)),v3,v4]∧Nt w v1 a.num.natAbs∧Nt w v2 (below a.den)∧Nt w v3 b.num.natAbs∧Nt w v4 (below b.den)
theorem Ao'.keep {w w':World} {v:Value} {a b:Rat} (h:Ao' w v a b) (hb:Below w.heap.size w w'):Ao' w' v a b:=by
 obtain ⟨v1,v2,v3,v4,h0,h1,h2,h3,h4⟩:=h
 exact ⟨v1,v2,v3,v4,h0,h1.keep hb,h2.keep hb,h3.keep hb,h4.keep hb⟩
theorem Ao'.opened {w:World} {v:Value} {a b:Rat} (h:Ao' w v a b):∃ A1 c1 A2 c2 A3 c3 A4 c4,
   v=.agg #[.bool (decide (a.num<0)),.slice A1 (len a.num.natAbs) c1,.slice A2 (len (below a.den)) c2,.bool (decide (b.num<0)),.slice A3 (len b.num.natAbs) c3,.slice A4 (len (below b.den)) c4] ∧
   Ac' w (.agg #[.bool (decide (a.num<0)),.slice A1 (len a.num.natAbs) c1,.slice A2 (len (below a.den)) c2]) a∧Ac' w (.agg #[.bool (decide (b.num<0)),.slice A3 (len b.num.natAbs) c3,.slice A4 (len (below b.den)) c4]) b:=by
 obtain ⟨v1,v2,v3,v4,rfl,h1,h2,h3,h4⟩:=h
 obtain ⟨A1,c1,rfl,-⟩:=id h1
 obtain ⟨A2,c2,rfl,-⟩:=id h2
 obtain ⟨A3,c3,rfl,-⟩:=id h3
 obtain ⟨A4,c4,rfl,-⟩:=id h4
 exact ⟨A1,c1,A2,c2,A3,c3,A4,c4,rfl,⟨_,_,rfl,h1,h2⟩,⟨_,_,rfl,h3,h4⟩⟩
theorem Ac'.pair {w:World} {A1 c1 A2 c2 A3 c3 A4 c4} {a b:Rat} {n1 n2 n3 n4:Nat} {s1 s2:Bool} (h1:Ac' w (.agg #[.bool s1,.slice A1 n1 c1,.slice A2 n2 c2]) a) (h2:Ac' w (.agg #[.bool s2,.slice A3 n3 c3,.slice A4 n4 c4]) b) :
   Ao' w (.agg #[.bool s1,.slice A1 n1 c1,.slice A2 n2 c2,.bool s2,.slice A3 n3 c3,.slice A4 n4 c4]) a b:=by
 obtain ⟨u1,u2,e1,h3,h4⟩:=h1
 obtain ⟨u3,u4,e2,h5,h6⟩:=h2
 simp only [Value.agg.injEq,Array.mk.injEq,List.cons.injEq,Value.bool.injEq,and_true] at e1 e2
 obtain ⟨rfl,rfl,rfl⟩:=e1
 obtain ⟨rfl,rfl,rfl⟩:=e2
 exact ⟨_,_,_,_,rfl,h3,h4,h5,h6⟩
def Bt' (w:World) (a b:Rat) (e:Ending) (w':World):Prop:=∃ v,e=.returned v∧Ao' w' v a b∧Below w.heap.size w w'
theorem Bm' {w:World} {v:Value} {a b:Rat} (hv:Ao' w v a b) (hs:Aa' a≤1099511627776) :
   Calls Tryz.prog 30 #[v] w (Az' w a):=by
 obtain ⟨A1,c1,A2,c2,A3,c3,A4,c4,rfl,hx,hy⟩:=hv.opened
 obtain ⟨wB,hwB⟩:=eX ((w.alloc (.cells #[.bool (decide (a.num<0)),.slice A1 (len a.num.natAbs) c1,.slice A2 (len (below a.den)) c2,.bool (decide (b.num<0)),.slice A3 (len b.num.natAbs) c3,.slice A4 (len (below b.den)) c4] 37)).alloc (.cells #[.bool false,.slice none 0 0,.slice none 0 0] 35))
 obtain ⟨b0,gA,gB⟩:=AL' hwB
 obtain ⟨k0,k1,k2,k3,k4,k5⟩:=Aj gA
 have HK0:=hid (Aq'.start (T:=35) rfl (A1' _ _ _ _ _ _ _) gB)
 have HB0:=hid b0
 have hlt1:w.heap.size<w.heap.size+1:=by omega
 clear gA gB b0
 have HX:=hid (AU' (hx.keep HB0.out) hs)
 clear hs hx hy hv
 go_enter Tryz.func30,Tryz.ntmps30
 go_upto_region 1 with fail
 rw [←hwB]
 clear hwB
 go_wp2_with fail
 refine (HX.out).mono ?_
 rintro e w5 ⟨v5,rfl,hv5,b5⟩
 obtain ⟨C1,j1,C2,j2,rfl,-,-⟩:=hv5.opened
 have hk:=(HK0.out.call b5).held (An'.refl _)
 clear b5 HX
 obtain ⟨-,c0,c1',c2',f0,f1,f2,-⟩:=id hk
 have HD:=hk.done (q:=a) (b:=decide (a.num<0)) (A1:=C1) (n1:=len a.num.natAbs) (c1:=j1) (A2:=C2) (n2:=len (below a.den)) (c2:=j2) (hv5)
 obtain ⟨d1,d2,d3⟩:=HD
 obtain ⟨r0,r1,r2⟩:=Ad' d3
 have HD:=hid (And.intro d1 d2)
 clear d1 d2 d3
 go_wp2_with fail
 refine bP (v:=.agg #[.bool (decide (a.num<0)),.slice (C1) (len a.num.natAbs) (j1),.slice (C2) (len (below a.den)) (j2)]) ?_ rfl ⟨_,rfl,HD.out.1,Ak' HB0.out (by omega) HD.out.2⟩
 simp [results,Tryz.results30,go_sem,r0,r1,r2]
theorem BJ' {w:World} {v:Value} {a b:Rat} (hv:Ao' w v a b) (hs:Aa' b≤1099511627776) :
   Calls Tryz.prog 32 #[v] w (Az' w b):=by
 obtain ⟨A1,c1,A2,c2,A3,c3,A4,c4,rfl,hx,hy⟩:=hv.opened
 obtain ⟨wB,hwB⟩:=eX ((w.alloc (.cells #[.bool (decide (a.num<0)),.slice A1 (len a.num.natAbs) c1,.slice A2 (len (below a.den)) c2,.bool (decide (b.num<0)),.slice A3 (len b.num.natAbs) c3,.slice A4 (len (below b.den)) c4] 37)).alloc (.cells #[.bool false,.slice none 0 0,.slice none 0 0] 35))
 obtain ⟨b0,gA,gB⟩:=AL' hwB
 obtain ⟨k0,k1,k2,k3,k4,k5⟩:=Aj gA
 have HK0:=hid (Aq'.start (T:=35) rfl (A1' _ _ _ _ _ _ _) gB)
 have HB0:=hid b0
 have hlt1:w.heap.size<w.heap.size+1:=by omega
 clear gA gB b0
 have HX:=hid (AU' (hy.keep HB0.out) hs)
 clear hs hx hy hv
 go_enter Tryz.func32,Tryz.ntmps32
 go_upto_region 1 with fail
 rw [←hwB]
 clear hwB
 go_wp2_with fail
 refine (HX.out).mono ?_
 rintro e w5 ⟨v5,rfl,hv5,b5⟩
 obtain ⟨C1,j1,C2,j2,rfl,-,-⟩:=hv5.opened
 have hk:=(HK0.out.call b5).held (An'.refl _)
 clear b5 HX
 obtain ⟨-,c0,c1',c2',f0,f1,f2,-⟩:=id hk
 have HD:=hk.done (q:=b) (b:=decide (b.num<0)) (A1:=C1) (n1:=len b.num.natAbs) (c1:=j1) (A2:=C2) (n2:=len (below b.den)) (c2:=j2) (hv5)
 obtain ⟨d1,d2,d3⟩:=HD
 obtain ⟨r0,r1,r2⟩:=Ad' d3
 have HD:=hid (And.intro d1 d2)
 clear d1 d2 d3
 go_wp2_with fail
 refine bP (v:=.agg #[.bool (decide (b.num<0)),.slice (C1) (len b.num.natAbs) (j1),.slice (C2) (len (below b.den)) (j2)]) ?_ rfl ⟨_,rfl,HD.out.1,Ak' HB0.out (by omega) HD.out.2⟩
 simp [results,Tryz.results32,go_sem,r0,r1,r2]
def Ax' (wB:World) (G:Nat) (wS w:World):Prop :=
  (∀ b o,b<G→w.cell? ⟨b,o,none⟩=wB.cell? ⟨b,o,none⟩)∧w.cell? ⟨G,0,none⟩=some (cur w ⟨G,0,none⟩)∧w.cell? ⟨G,1,none⟩=some (cur w ⟨G,1,none⟩)∧w.cell? ⟨G,2,none⟩=some (cur w ⟨G,2,none⟩)∧w.cell? ⟨G,3,none⟩=some (cur w ⟨G,3,none⟩)∧w.cell? ⟨G,4,none⟩=some (cur w ⟨G,4,none⟩)∧w.cell? ⟨G,5,none⟩=some (cur w ⟨G,5,none⟩)∧w.frozen? ⟨G,0,none⟩=false∧w.frozen? ⟨G,1,none⟩=false∧w.frozen? ⟨G,2,none⟩=false∧w.frozen? ⟨G,3,none⟩=false∧w.frozen? ⟨G,4,none⟩=false∧w.frozen? ⟨G,5,none⟩=false∧Aq' 6 37 wB (G) w∧An' wS w
theorem Aq'.held6 {wB wS w:World} {G:Nat} (h:Aq' 6 37 wB G w) (hS:An' wS w):Ax' wB G wS w:=by
 obtain ⟨hb,cs,hs,hp,hg⟩:=id h
 exact ⟨Au hb,B9' hg (by omega),B9' hg (by omega),B9' hg (by omega),B9' hg (by omega),B9' hg (by omega),B9' hg (by omega),fR w G 0 _ _ hg,fR w G 1 _ _ hg,fR w G 2 _ _ hg,fR w G 3 _ _ hg,fR w G 4 _ _ hg,fR w G 5 _ _ hg,h,hS⟩
theorem Ax'.kept {wB wS w:World} {G:Nat} (h:Ax' wB G wS w):Aq' 6 37 wB G w:=by
 obtain ⟨-,-,-,-,-,-,-,-,-,-,-,-,-,h,-⟩:=h
 exact h
theorem Ax'.stay {wB wS w:World} {G:Nat} (h:Ax' wB G wS w):An' wS w:=by
 obtain ⟨-,-,-,-,-,-,-,-,-,-,-,-,-,-,h⟩:=h
 exact h
theorem Ax'.call {wB wS w w':World} {G:Nat} (h:Ax' wB G wS w) (hb:Below w.heap.size w w'):Ax' wB G wS w':=(h.kept.call hb).held6 (h.stay.call hb)
theorem Aq'.begin6 {wB w:World} {G:Nat} (h:Aq' 6 37 wB G w):Ax' wB G w w.drew:=h.drew.held6 (fun _ _ hv=>hv.keep ⟨rfl,rfl,rfl,nL _,fun _ _=>rfl⟩)
theorem CO {s1 s2:Bool} {A1 A2 A3 A4:Option Addr} {n1 c1 n2 c2 n3 c3 n4 c4:Nat}:CF #[.bool s1,.slice A1 n1 c1,.slice A2 n2 c2,.bool s2,.slice A3 n3 c3,.slice A4 n4 c4]:=by
 intro i k n
 match i with
 | 0=>exact fun h=>by cases h
 | 1=>exact fun h=>by cases h
 | 2=>exact fun h=>by cases h
 | 3=>exact fun h=>by cases h
 | 4=>exact fun h=>by cases h
 | 5=>exact fun h=>by cases h
 | _+6=>exact fun h=>by cases h
theorem Ax'.store {wB wS w:World} {G:Nat} {s1 s2:Bool} {A1 A2 A3 A4:Option Addr} {n1 c1 n2 c2 n3 c3 n4 c4:Nat} (h:Ax' wB G wS w) :
   Ax' wB G wS ((((((w.setCell ⟨G,0,none⟩ (.bool s1)).setCell ⟨G,1,none⟩ (.slice A1 n1 c1)).setCell ⟨G,2,none⟩ (.slice A2 n2 c2)).setCell ⟨G,3,none⟩ (.bool s2)).setCell ⟨G,4,none⟩ (.slice A3 n3 c3)).setCell ⟨G,5,none⟩ (.slice A4 n4 c4)):=by
 have k0:=h.kept
 have k1:=k0.set (i:=0) (AU s1)
 have k2:=k1.set (i:=1) (Ax A1 n1 c1)
 have k3:=k2.set (i:=2) (Ax A2 n2 c2)
 have k4:=k3.set (i:=3) (AU s2)
 have k5:=k4.set (i:=4) (Ax A3 n3 c3)
 have k6:=k5.set (i:=5) (Ax A4 n4 c4)
 exact k6.held6 ((((((h.stay.put k0).put k1).put k2).put k3).put k4).put k5)
theorem six {l:List Value} (h:l.length=6):∃ x0 x1 x2 x3 x4 x5,l=[x0,x1,x2,x3,x4,x5]:=by
 rcases l with _ | ⟨x0,l⟩
 · simp only [List.length_nil] at h;omega
 rcases l with _ | ⟨x1,l⟩
 · simp only [List.length_nil,List.length_cons] at h;omega
 rcases l with _ | ⟨x2,l⟩
 · simp only [List.length_nil,List.length_cons] at h;omega
 rcases l with _ | ⟨x3,l⟩
 · simp only [List.length_nil,List.length_cons] at h;omega
 rcases l with _ | ⟨x4,l⟩
 · simp only [List.length_nil,List.length_cons] at h;omega
 rcases l with _ | ⟨x5,l⟩
 · simp only [List.length_nil,List.length_cons] at h;omega
 rcases l with _ | ⟨x6,l⟩
 · exact ⟨x0,x1,x2,x3,x4,x5,rfl⟩
 · simp only [List.length_cons] at h;omega
theorem EL {w:World} {G:Nat} {T:TypeId} {cs:Array Value} (hs:cs.size=6) (hg:w.heap[G]?=some (.cells cs T (0,0))) (a b c d e f:Value) :
   ((((((w.setCell ⟨G,0,none⟩ a).setCell ⟨G,1,none⟩ b).setCell ⟨G,2,none⟩ c).setCell ⟨G,3,none⟩ d).setCell ⟨G,4,none⟩ e).setCell ⟨G,5,none⟩ f).heap[G]?=some (.cells #[a,b,c,d,e,f] T (0,0)):=by
 have g1:=heap_setCell_same w G 0 _ _ a hg
 have g2:=heap_setCell_same _ G 1 _ _ b g1
 have g3:=heap_setCell_same _ G 2 _ _ c g2
 have g4:=heap_setCell_same _ G 3 _ _ d g3
 have g5:=heap_setCell_same _ G 4 _ _ e g4
 have g6:=heap_setCell_same _ G 5 _ _ f g5
 rw [g6]
 obtain ⟨l⟩:=cs
 obtain ⟨x0,x1,x2,x3,x4,x5,rfl⟩:=six hs
 rfl
theorem Ax'.done {wB wS w:World} {G:Nat} {s1 s2:Bool} {A1 A2 A3 A4:Option Addr} {n1 c1 n2 c2 n3 c3 n4 c4:Nat} {p q:Rat} (h:Ax' wB G wS w) (hp:Ac' w (.agg #[.bool s1,.slice A1 n1 c1,.slice A2 n2 c2]) p) (hq:Ac' w (.agg #[.bool s2,.slice A3 n3 c3,.slice A4 n4 c4]) q) :
   Ao' ((((((w.setCell ⟨G,0,none⟩ (.bool s1)).setCell ⟨G,1,none⟩ (.slice A1 n1 c1)).setCell ⟨G,2,none⟩ (.slice A2 n2 c2)).setCell ⟨G,3,none⟩ (.bool s2)).setCell ⟨G,4,none⟩ (.slice A3 n3 c3)).setCell ⟨G,5,none⟩ (.slice A4 n4 c4)) (.agg #[.bool s1,.slice A1 n1 c1,.slice A2 n2 c2,.bool s2,.slice A3 n3 c3,.slice A4 n4 c4]) p q ∧
   Below G wB ((((((w.setCell ⟨G,0,none⟩ (.bool s1)).setCell ⟨G,1,none⟩ (.slice A1 n1 c1)).setCell ⟨G,2,none⟩ (.slice A2 n2 c2)).setCell ⟨G,3,none⟩ (.bool s2)).setCell ⟨G,4,none⟩ (.slice A3 n3 c3)).setCell ⟨G,5,none⟩ (.slice A4 n4 c4)) ∧
   ((((((w.setCell ⟨G,0,none⟩ (.bool s1)).setCell ⟨G,1,none⟩ (.slice A1 n1 c1)).setCell ⟨G,2,none⟩ (.slice A2 n2 c2)).setCell ⟨G,3,none⟩ (.bool s2)).setCell ⟨G,4,none⟩ (.slice A3 n3 c3)).setCell ⟨G,5,none⟩ (.slice A4 n4 c4)).heap[G]?=some (.cells #[.bool s1,.slice A1 n1 c1,.slice A2 n2 c2,.bool s2,.slice A3 n3 c3,.slice A4 n4 c4] 37 (0,0)):=by
 have k0:=h.kept
 have k1:=k0.set (i:=0) (AU s1)
 have k2:=k1.set (i:=1) (Ax A1 n1 c1)
 have k3:=k2.set (i:=2) (Ax A2 n2 c2)
 have k4:=k3.set (i:=3) (AU s2)
 have k5:=k4.set (i:=4) (Ax A3 n3 c3)
 have k6:=k5.set (i:=5) (Ax A4 n4 c4)
 refine ⟨Ac'.pair (((((((hp.put k0).put k1).put k2).put k3).put k4).put k5)) (((((((hq.put k0).put k1).put k2).put k3).put k4).put k5)),k6.1,?_⟩
 obtain ⟨_,cs,hs,_,hg⟩:=k0
 exact EL hs hg _ _ _ _ _ _
theorem Ey' {w:World} {vx:Value} {x:Rat} (hx:Ac' w vx x) (hs:Aa' x≤1099511627776) :
   Calls Tryz.prog 27 #[vx] w (Bt' w x x):=by
 obtain ⟨A1,c1,A2,c2,rfl,hx1,hx2⟩:=hx.opened
 obtain ⟨wB,hwB⟩:=eX ((w.alloc (.cells #[.bool (decide (x.num<0)),.slice A1 (len x.num.natAbs) c1,.slice A2 (len (below x.den)) c2] 35)).alloc (.cells #[.bool false,.slice none 0 0,.slice none 0 0,.bool false,.slice none 0 0,.slice none 0 0] 37))
 obtain ⟨b0,gA,gB⟩:=AL' hwB
 obtain ⟨k0,k1,k2⟩:=Ad' gA
 have HK0:=hid (Aq'.start (T:=37) rfl CO gB)
 have HB0:=hid b0
 have hlt1:w.heap.size<w.heap.size+1:=by omega
 clear gA gB b0
 have hxB:=hx.keep HB0.out
 have H0:=HK0.out.begin6
 have H0':=H0
 unfold Ax' at H0'
 have HX:=fun (w':World) (hk:Ax' wB (w.heap.size+1) wB w')=>hid (AU' (hk.stay.num hxB) hs)
 clear hx hs hxB hx1 hx2
 go_enter Tryz.func27,Tryz.ntmps27
 go_upto_region 1 with fail
 rw [←hwB]
 clear hwB
 go_wp2_with fail
 go_region_held3 (fun w'=>(∀ b o,b<w.heap.size+1→w'.cell? ⟨b,o,none⟩=wB.cell? ⟨b,o,none⟩)∧w'.cell? ⟨w.heap.size+1,0,none⟩=some (cur w' ⟨w.heap.size+1,0,none⟩)∧w'.cell? ⟨w.heap.size+1,1,none⟩=some (cur w' ⟨w.heap.size+1,1,none⟩)∧w'.cell? ⟨w.heap.size+1,2,none⟩=some (cur w' ⟨w.heap.size+1,2,none⟩)∧w'.cell? ⟨w.heap.size+1,3,none⟩=some (cur w' ⟨w.heap.size+1,3,none⟩)∧w'.cell? ⟨w.heap.size+1,4,none⟩=some (cur w' ⟨w.heap.size+1,4,none⟩)∧w'.cell? ⟨w.heap.size+1,5,none⟩=some (cur w' ⟨w.heap.size+1,5,none⟩)∧w'.frozen? ⟨w.heap.size+1,0,none⟩=false∧w'.frozen? ⟨w.heap.size+1,1,none⟩=false∧w'.frozen? ⟨w.heap.size+1,2,none⟩=false∧w'.frozen? ⟨w.heap.size+1,3,none⟩=false∧w'.frozen? ⟨w.heap.size+1,4,none⟩=false∧w'.frozen? ⟨w.heap.size+1,5,none⟩=false∧Aq' 6 37 wB (w.heap.size+1) w'∧An' wB w')
   (first | with_reducible exact H0' | with_reducible exact hk1' | with_reducible exact hk2' | exact hk2.store)
   (first | (go_at_call 58;refine ((HX _ hk1).out).mono ?_;rintro e w2 ⟨v2,rfl,hv2,hbl2⟩;obtain ⟨C3,j3,C4,j4,rfl,-,-⟩:=hv2.opened;have hk2:=hk1.call hbl2;have hk2':=hk2;unfold Ax' at hk2') | (go_at_call 58;refine ((HX _ H0).out).mono ?_;rintro e w1 ⟨v1,rfl,hv1,hbl1⟩;obtain ⟨C1,j1,C2,j2,rfl,-,-⟩:=hv1.opened;have hk1:=H0.call hbl1;have hk1':=hk1;unfold Ax' at hk1'))
 rename_i hHl
 clear hHl
 have hv1':=hv1.keep hbl2
 have HD:=hk2.done (p:=x) (q:=x) (s1:=decide (x.num<0)) (A1:=C1) (n1:=len x.num.natAbs) (c1:=j1) (A2:=C2) (n2:=len (below x.den)) (c2:=j2) (s2:=decide (x.num<0)) (A3:=C3) (n3:=len x.num.natAbs) (c3:=j3) (A4:=C4) (n4:=len (below x.den)) (c4:=j4) (hv1') (hv2)
 obtain ⟨d1,d2,d3⟩:=HD
 obtain ⟨r0,r1,r2,r3,r4,r5⟩:=Aj d3
 have HD:=hid (And.intro d1 d2)
 clear d1 d2 d3
 go_wp2_with fail
 refine bP (v:=.agg #[.bool (decide (x.num<0)),.slice (C1) (len x.num.natAbs) (j1),.slice (C2) (len (below x.den)) (j2),.bool (decide (x.num<0)),.slice (C3) (len x.num.natAbs) (j3),.slice (C4) (len (below x.den)) (j4)]) ?_ rfl ⟨_,rfl,HD.out.1,Ak' HB0.out (by omega) HD.out.2⟩
 simp [results,Tryz.results27,go_sem,r0,r1,r2,r3,r4,r5]
def B1' (w:World) (a b:Rat) (c:Int) (e:Ending) (w':World):Prop:=∃ v,e=.returned (.tuple #[v,.int .i64 c])∧Ao' w' v a b∧Below w.heap.size w w'
theorem Cc' {x y:Rat} (h:x≤y):¬ 0<cmpQ x y:=by
 unfold cmpQ
 split
 · omega
 · split
   · omega
   · rename_i h1 h2
     exact absurd (Rat.le_antisymm h (Rat.not_lt.1 h1)) h2
theorem CO' {x y:Rat} (h:¬ x≤y):0<cmpQ x y:=by
 unfold cmpQ
 rw [if_neg (fun e=>h (Rat.le_of_lt e)),if_neg (fun e=>h (by rw [e];exact Rat.le_refl))]
 omega
theorem Fd {w:World} {vx vy:Value} {x y:Rat} (hx:Ac' w vx x) (hy:Ac' w vy y) (hs:Aa' x≤34359738368) (ht:Aa' y≤34359738368) (h:x≤y) :
   Calls Tryz.prog 20 #[vx,vy] w (B1' w x y 0):=by
 obtain ⟨A1,c1,A2,c2,rfl,-,-⟩:=id hx.opened
 obtain ⟨A3,c3,A4,c4,rfl,-,-⟩:=id hy.opened
 obtain ⟨wB,hwB⟩:=eX (((w.alloc (.cells #[.bool (decide (x.num<0)),.slice A1 (len x.num.natAbs) c1,.slice A2 (len (below x.den)) c2] 35)).alloc (.cells #[.bool (decide (y.num<0)),.slice A3 (len y.num.natAbs) c3,.slice A4 (len (below y.den)) c4] 35)).alloc (.cells #[.bool false,.slice none 0 0,.slice none 0 0,.bool false,.slice none 0 0,.slice none 0 0] 37))
 obtain ⟨b0,g0,g1,g2⟩:=AC hwB
 obtain ⟨k0,k1,k2⟩:=Ad' g0
 obtain ⟨k3,k4,k5⟩:=Ad' g1
 have HK0:=hid (Aq'.start (T:=37) rfl CO g2)
 have HB0:=hid b0
 have hlt1:w.heap.size<w.heap.size+2:=by omega
 have hlt2:w.heap.size+1<w.heap.size+2:=by omega
 clear g0 g1 g2 b0
 have HC:=hid (A6' (hx.keep HB0.out) (hy.keep HB0.out) hs ht)
 obtain ⟨cc,hcc⟩:=eX (cmpQ x y:Int)
 have hle:decide (cc>0)=false:=dF_ (by rw [hcc];exact Cc' h)
 rw [←hcc] at HC
 clear hcc h
 have HX:=fun (w1 w':World) (hb:Below w.heap.size w w1) (hk:Ax' wB (w.heap.size+2) w1 w')=>hid (AU' (hk.stay.num (hx.keep hb)) (nT hs (by omega)))
 have HY:=fun (w1 w':World) (hb:Below w.heap.size w w1) (hk:Ax' wB (w.heap.size+2) w1 w')=>hid (AU' (hk.stay.num (hy.keep hb)) (nT ht (by omega)))
 clear hx hy hs ht
 go_enter Tryz.func20,Tryz.ntmps20
 go_wp2_with fail
 rw [←hwB]
 clear hwB
 refine (HC.out).mono ?_
 rintro e w0 ⟨rfl,b1⟩
 have HK1:=hid (HK0.out.call b1)
 have HX:=fun (w':World) (hk:Ax' wB (w.heap.size+2) w0 w')=>HX w0 w' (Ak' HB0.out (by omega) HK1.out.1) hk
 have HY:=fun (w':World) (hk:Ax' wB (w.heap.size+2) w0 w')=>HY w0 w' (Ak' HB0.out (by omega) HK1.out.1) hk
 have H0:=HK1.out.begin6
 have H0':=H0
 unfold Ax' at H0'
 go_wp2_with fail
 go_region_held3 (fun w'=>(∀ b o,b<w.heap.size+2→w'.cell? ⟨b,o,none⟩=wB.cell? ⟨b,o,none⟩)∧w'.cell? ⟨w.heap.size+2,0,none⟩=some (cur w' ⟨w.heap.size+2,0,none⟩)∧w'.cell? ⟨w.heap.size+2,1,none⟩=some (cur w' ⟨w.heap.size+2,1,none⟩)∧w'.cell? ⟨w.heap.size+2,2,none⟩=some (cur w' ⟨w.heap.size+2,2,none⟩)∧w'.cell? ⟨w.heap.size+2,3,none⟩=some (cur w' ⟨w.heap.size+2,3,none⟩)∧w'.cell? ⟨w.heap.size+2,4,none⟩=some (cur w' ⟨w.heap.size+2,4,none⟩)∧w'.cell? ⟨w.heap.size+2,5,none⟩=some (cur w' ⟨w.heap.size+2,5,none⟩)∧w'.frozen? ⟨w.heap.size+2,0,none⟩=false∧w'.frozen? ⟨w.heap.size+2,1,none⟩=false∧w'.frozen? ⟨w.heap.size+2,2,none⟩=false∧w'.frozen? ⟨w.heap.size+2,3,none⟩=false∧w'.frozen? ⟨w.heap.size+2,4,none⟩=false∧w'.frozen? ⟨w.heap.size+2,5,none⟩=false∧Aq' 6 37 wB (w.heap.size+2) w'∧An' w0 w')
   (first | with_reducible exact H0' | with_reducible exact hk1' | with_reducible exact hk2' | exact hk2.store)
   (first | (go_at_call 58;refine ((HY _ hk1).out).mono ?_;rintro e w2 ⟨v2,rfl,hv2,hbl2⟩;obtain ⟨C3,j3,C4,j4,rfl,-,-⟩:=id hv2.opened;have hk2:=hk1.call hbl2;have hk2':=hk2;unfold Ax' at hk2') | (go_at_call 58;refine ((HX _ H0).out).mono ?_;rintro e w1 ⟨v1,rfl,hv1,hbl1⟩;obtain ⟨C1,j1,C2,j2,rfl,-,-⟩:=id hv1.opened;have hk1:=H0.call hbl1;have hk1':=hk1;unfold Ax' at hk1'))
 rename_i hHl
 clear hHl
 have hv1':=hv1.keep hbl2
 have HD:=hk2.done (p:=x) (q:=y) (s1:=decide (x.num<0)) (A1:=C1) (n1:=len x.num.natAbs) (c1:=j1) (A2:=C2) (n2:=len (below x.den)) (c2:=j2) (s2:=decide (y.num<0)) (A3:=C3) (n3:=len y.num.natAbs) (c3:=j3) (A4:=C4) (n4:=len (below y.den)) (c4:=j4) (hv1') (hv2)
 obtain ⟨d1,d2,d3⟩:=HD
 obtain ⟨r0,r1,r2,r3,r4,r5⟩:=Aj d3
 have HD:=hid (And.intro d1 d2)
 clear d1 d2 d3
 go_wp2_with fail
 refine bP (v:=.tuple #[.agg #[.bool (decide (x.num<0)),.slice (C1) (len x.num.natAbs) (j1),.slice (C2) (len (below x.den)) (j2),.bool (decide (y.num<0)),.slice (C3) (len y.num.natAbs) (j3),.slice (C4) (len (below y.den)) (j4)],.int .i64 0]) ?_ rfl ⟨_,rfl,HD.out.1,Ak' HB0.out (by omega) HD.out.2⟩
 simp [results,Tryz.results20,go_sem,r0,r1,r2,r3,r4,r5]
end Go.Proofs.YtflopjfnppolgaaGreatDoor
