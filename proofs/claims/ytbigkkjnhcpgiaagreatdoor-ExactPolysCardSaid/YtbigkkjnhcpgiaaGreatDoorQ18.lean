/-
  Contracts of the functions that the law calls, for every input (Txf Txg Txh Txi Txj).
-/
import Derived.Test.YtbigkkjnhcpgiaaGreatDoorQ00
import Derived.Test.YtbigkkjnhcpgiaaGreatDoorQ17
import Derived.Lib.Repeat
import Derived.Lib.SmallJoins
import Derived.Lib.IndexBytes
import Derived.Deep.QuietTactic
import Derived.BigQuiet
set_option linter.all false
set_option maxRecDepth 100000
set_option maxHeartbeats 40000000
namespace Go.Proofs.YtbigkkjnhcpgiaaGreatDoor
open Lib (hid)
open Go.RowKit
open Vx
def AR' (l:List UInt8) (p:Nat):List UInt8 :=
  if p=0 then l else
    (List.replicate (p+1 - l.length) 48++l).take ((List.replicate (p+1 - l.length) 48++l).length - p)++[46] ++
      (List.replicate (p+1 - l.length) 48++l).drop ((List.replicate (p+1 - l.length) 48++l).length - p)
theorem AA (a b:ByteArray):(a++b).data.toList=a.data.toList++b.data.toList:=by
 rw [ByteArray.data_append,Array.toList_append]
theorem BI' {b:ByteArray} {l:List UInt8} (h:b.data.toList=l):b=⟨l.toArray⟩:=by
 subst h
 rfl
theorem CA {s:ByteArray} {l:List UInt8} {p:Nat} (hs:s.data.toList=List.replicate (p+1 - l.length) 48++l) (h0:0<p) (_h:p<s.size) :
   (⟨(s.extract 0 (s.size - p)++⟨#[46]⟩++s.extract (s.size - p) s.size).data⟩:ByteArray)=⟨(AR' l p).toArray⟩:=by
 apply BI'
 have hsz:s.size=(List.replicate (p+1 - l.length) 48++l).length:=by rw [←hs];exact (Array.length_toList (xs:=s.data)).symm
 rw [AA,AA,Lib.extract_data,Lib.extract_to_end,hs,hsz]
 unfold AR'
 rw [if_neg (by omega),Nat.sub_zero,List.drop_zero]
theorem FB' {s:ByteArray} {l:List UInt8} {p:Nat} (hs:s=⟨l.toArray⟩) (h0:0<p) (h:p<l.length) :
   (⟨(s.extract 0 (s.size - p)++⟨#[46]⟩++s.extract (s.size - p) s.size).data⟩:ByteArray)=⟨(AR' l p).toArray⟩:=by
 have hr:List.replicate (p+1 - l.length) (48:UInt8)++l=l:=by rw [show p+1 - l.length=0 by omega];rfl
 refine CA (by rw [hr,hs]) h0 ?_
 rw [hs]
 exact h
theorem E8 {w:World} {l:List UInt8}:Calls Tryz.prog 59 #[.string ⟨l.toArray⟩,.int .i64 0] w (A9' w l):=by
 go_enter Tryz.func59,Tryz.ntmps59
 go_wp2_with fail
 go_ret
 exact ⟨rfl,Below.refl _ _⟩
theorem G2' {w:World} {l:List UInt8} {p:Nat} (h0:0<p) (hp:p≤70368744177664) (hl:l.length≤70368744177664) (h:p<l.length) :
   Calls Tryz.prog 59 #[.string ⟨l.toArray⟩,.int .i64 ((p:Nat):Int)] w (A9' w (AR' l p)):=by
 have t0:(((p:Nat):Int)==0)=false:=by rw [beq_eq_false_iff_ne];omega
 obtain ⟨s,hs⟩:=eX (⟨l.toArray⟩:ByteArray)
 have hsz:s.size=l.length:=by rw [hs];rfl
 rw [←hs]
 have HS:=hid hs
 have h1:((p:Nat):Int)<((s.size:Nat):Int):=by omega
 have h2:((s.size:Nat):Int)≤70368744177664:=by omega
 have h3:¬ (0:Int)<((p:Nat):Int)+1 - ((s.size:Nat):Int):=by omega
 have HZ:=hid hsz
 clear hs hsz h hl
 go_enter Tryz.func59,Tryz.ntmps59
 go_wp2_with fail
 go_quiet (fail)
 go_wp2_with fail
 go_ret
 refine ⟨?_,Ai w _⟩
 have e:=FB' (s:=s) (l:=l) (p:=p) (by rw [HS.out]) h0 (by rw [←HZ.out];omega)
 rw [←e]
 rfl
theorem G4' {w:World} {l:List UInt8} {p:Nat} (h0:0<p) (hp:p≤70368744177664) (h:l.length≤p) :
   Calls Tryz.prog 59 #[.string ⟨l.toArray⟩,.int .i64 ((p:Nat):Int)] w (A9' w (AR' l p)):=by
 have t0:(((p:Nat):Int)==0)=false:=by rw [beq_eq_false_iff_ne];omega
 obtain ⟨s,hs⟩:=eX (⟨l.toArray⟩:ByteArray)
 have hsz:s.size=l.length:=by rw [hs];rfl
 rw [←hs]
 have HS:=hid hs
 obtain ⟨c,hc⟩:=eX (p+1 - l.length)
 have h1:((s.size:Nat):Int)≤((p:Nat):Int):=by omega
 have h3:(0:Int)<((p:Nat):Int)+1 - ((s.size:Nat):Int):=by omega
 have hci:((p:Nat):Int)+1 - ((s.size:Nat):Int)=((c:Nat):Int):=by omega
 have hc0:(0:Int)<((c:Nat):Int):=by omega
 have HX:=hid (Tryz.strings_Repeat ⟨#[48]⟩ c w (by omega) (by show 1*c≤_;omega))
 obtain ⟨z,hz⟩:=eX (⟨(Lib.repeatL (⟨#[48]⟩:ByteArray).data.toList c).toArray⟩:ByteArray)
 rw [←hz] at HX
 have hzl:z.data.toList=List.replicate c 48:=by
   rw [hz]
   show Lib.repeatL [48] c=_
   have:=Lib.repeatL_replicate 48 1 c
   rw [Nat.mul_one] at this
   exact this
 have hz2:z.size=c:=by
   show z.data.size=c
   rw [←Array.length_toList,hzl,List.length_replicate]
 obtain ⟨s2,hs2⟩:=eX (z++s:ByteArray)
 have hs2l:s2.data.toList=List.replicate c 48++l:=by rw [hs2,AA,hzl,hs]
 have hs2z:s2.size=p+1:=by
   show s2.data.size=_
   rw [←Array.length_toList,hs2l,List.length_append,List.length_replicate]
   omega
 have HL:=hid hs2l;have HZ:=hid hs2z;have HC:=hid hc
 have HS2:=hid hs2
 have g1:((p:Nat):Int)<((s2.size:Nat):Int):=by omega
 have g3:((z.size:Nat):Int)≤70368744177665:=by omega
 have g4:((s.size:Nat):Int)≤70368744177664:=by omega
 have g2:((s2.size:Nat):Int)≤70368744177665:=by omega
 clear hs hsz h hz hzl hz2 hs2 hs2l hs2z hc
 go_enter Tryz.func59,Tryz.ntmps59
 go_wp2_with fail
 refine (HX.out).mono ?_
 rintro e w1 ⟨rfl,b1⟩
 clear hci
 go_upto_region 6 with fail
 rw [←HS2.out]
 go_wp2_with fail
 go_quiet (fail)
 go_wp2_with fail
 go_ret
 refine ⟨?_,chain b1 (Ai w1 _)⟩
 have e:=CA (s:=s2) (l:=l) (p:=p) (by rw [HL.out,HC.out]) h0 (by rw [HZ.out];omega)
 rw [←e]
 rfl
theorem DD' {w:World} {l:List UInt8} {p:Nat} (hp:p≤70368744177664) (hl:l.length≤70368744177664) :
   Calls Tryz.prog 59 #[.string ⟨l.toArray⟩,.int .i64 ((p:Nat):Int)] w (A9' w (AR' l p)):=by
 rcases Nat.eq_zero_or_pos p with h0 | h0
 · subst h0
   have:AR' l 0=l:=by unfold AR';rw [if_pos rfl]
   rw [this]
   exact E8
 · rcases Nat.lt_or_ge p l.length with h | h
   · exact G2' h0 hp hl h
   · exact G4' h0 hp h
def Gk' (p:Nat):Nat→Nat→Nat
  | 0,_=>0
  | k+1,n=>if n%p=0∧0<n then Gk' p k (n / p)+1 else 0
def vp (p n:Nat):Nat:=Gk' p n n
theorem IT {p b:Nat} (hp:2≤p) (hb:b%p≠0):∀ (j k:Nat),k≤j→Gk' p j (b*p^k)=k:=by
 have hb0:0<b:=by
   rcases Nat.eq_zero_or_pos b with h | h
   · subst h;simp at hb
   · exact h
 intro j
 induction j with
 | zero =>
   intro k hk
   obtain rfl:k=0:=by omega
   rfl
 | succ j ih =>
   intro k hk
   unfold Gk'
   match k,hk with
   | 0,_=>rw [Nat.pow_zero,Nat.mul_one,if_neg (fun h=>hb h.1)]
   | k+1,hk =>
     have e:b*p^(k+1)=b*p^k*p:=by rw [Nat.pow_succ,Nat.mul_assoc]
     rw [e,if_pos ⟨Nat.mul_mod_left _ _,Nat.mul_pos (Nat.mul_pos hb0 (Nat.pow_pos (by omega))) (by omega)⟩,Nat.mul_div_cancel _ (by omega),ih k (by omega)]
theorem EQ' {p b k:Nat} (hp:2≤p) (hb:b%p≠0):vp p (b*p^k)=k:=by
 have hb0:0<b:=by
   rcases Nat.eq_zero_or_pos b with h | h
   · subst h;simp at hb
   · exact h
 refine IT hp hb _ _ ?_
 have h1:k<2^k:=Nat.lt_two_pow_self
 have h2:2^k≤p^k:=Nat.pow_le_pow_left hp k
 have h3:p^k≤b*p^k:=Nat.le_mul_of_pos_left _ hb0
 omega
def AH (q:Rat):List UInt8 :=
  (if q.num<0 then [45] else []) ++
    if q.den=2^vp 2 q.den*5^vp 5 q.den then
      AR' (AB (q.num.natAbs*5^(max (vp 2 q.den) (vp 5 q.den) - vp 5 q.den)*2^(max (vp 2 q.den) (vp 5 q.den) - vp 2 q.den))) (max (vp 2 q.den) (vp 5 q.den))
    else AB q.num.natAbs++[47]++AB q.den
theorem Dh' (t:Nat):2^t%5=1∨2^t%5=2∨2^t%5=3∨2^t%5=4:=by
 induction t with
 | zero=>left;rfl
 | succ t ih=>rw [Nat.pow_succ];omega
theorem Cq {d b t r f:Nat} (h1:d=b*2^t) (h2:b%2=1) (h3:b=r*5^f) (h4:r%5≠0) :
   vp 2 d=t∧vp 5 d=f∧(d=2^t*5^f↔r=1):=by
 refine ⟨by rw [h1];exact EQ' (by omega) (by omega),?_,?_⟩
 · have e:d=r*2^t*5^f:=by rw [h1,h3,Nat.mul_assoc,Nat.mul_comm (5^f),←Nat.mul_assoc]
   rw [e]
   refine EQ' (by omega) ?_
   have h5:=Dh' t
   have h6:r%5=1∨r%5=2∨r%5=3∨r%5=4:=by omega
   rw [Nat.mul_mod]
   rcases h5 with h | h | h | h <;> rcases h6 with h' | h' | h' | h' <;> rw [h,h'] <;> decide
 · rw [h1,h3]
   have hp:0<5^f*2^t:=Nat.mul_pos (Nat.pow_pos (by omega)) (Nat.pow_pos (by omega))
   constructor
   · intro e
     rw [Nat.mul_comm (2^t),Nat.mul_assoc] at e
     have:r*(5^f*2^t)=1*(5^f*2^t):=by rw [Nat.one_mul];exact e
     exact Nat.eq_of_mul_eq_mul_right hp this
   · intro e
     rw [e,Nat.one_mul,Nat.mul_comm]
theorem Aq {g:Nat} {w w':World} (h:TabAt g Lib.deBruijn64tab w) (hb:Below w.heap.size w w'):TabAt g Lib.deBruijn64tab w':=by
 intro j hj
 have h1:=h j hj
 exact (hb.cell (p:=⟨g,j,none⟩) (bL w _ h1)).trans h1
theorem Cu (n:Nat):(AB n).length≤20*len n+1:=by
 unfold AB
 split
 · simp
 · unfold Bv'
   have:=(List.dropWhile_suffix (l:=digs (20*len n) n) (· == 48)).length_le
   rw [Bj'] at this
   omega
theorem CA' (w:World) {x:Nat} (h0:0<x) (hx:x<W):Nt (w.alloc (.cells #[.int .u64 (x:Nat)] 86)) (.slice (some ⟨w.heap.size,0,none⟩) 1 1) x:=by
 refine ⟨_,1,by rw [Be h0 hx],by rw [Be h0 hx];omega,by omega,fun e=>by omega,fun _=>⟨w.heap.size,0,rfl,by simp,fun j hj=>?_⟩⟩
 rw [Be h0 hx] at hj
 obtain rfl:j=0:=by omega
 rw [cR _ _ _ _ _ _ (hA_ w _)]
 simp [word,Nat.mod_eq_of_lt hx]
theorem Af.alloc {wB wS w:World} {G:Nat} (h:Af wB G wS w) (hG:G≤wB.heap.size) (o:Obj):Af wB G wS (w.alloc o):=h.call hG ((Below.refl _ _).alloc (nL _) _)
theorem Bz {b p n:Nat} (hb:0<b) (hp:2≤p) (h:len (b*p^n)≤536870912):n≤34359738368:=by
 have:=Dt' (n:=n) hb hp
 omega
theorem If (w:World):Nt (w.alloc (.cells #[.int .u64 5] 86)) (.slice (some ⟨w.heap.size,0,none⟩) 1 1) 5:=CA' w (x:=5) (by decide) (by rw [Bh];decide)
theorem Ev' (w:World):Nt (w.alloc (.cells #[.int .u64 5] 86)).drew (.slice (some ⟨w.heap.size,0,none⟩) 1 1) 5:=(If w).keep ⟨rfl,rfl,rfl,nL _,fun _ _=>rfl⟩
theorem Af.plain {wB w:World} {G:Nat} (h:Below G wB w):Af wB G w w:=⟨Ao h,h,Aj.refl w⟩
theorem Af.alloc_drew {wB wS w:World} {G:Nat} (h:Af wB G wS w) (hG:G≤wB.heap.size) (o:Obj):Af wB G wS (w.alloc o).drew :=
 (h.alloc hG o).call hG ⟨rfl,rfl,rfl,nL _,fun _ _=>rfl⟩
theorem CX:len 5=1:=by decide +kernel
theorem Ew {l:List UInt8} {p:Nat} (hl:l.length≤1099511627776) (hp:p≤34359738368):(AR' l p).length≤70368744177664:=by
 unfold AR'
 split
 · omega
 · simp only [List.length_append,List.length_take,List.length_drop,List.length_replicate,List.length_cons,List.length_nil]
   omega
theorem D0 {a i j:Nat} (ha:len a≤536870912) (hi:i≤34359738368) (hj:j≤34359738368):len (5^i)≤34359738369∧len (a*5^i)≤34896609281∧len (a*5^i*2^j)≤35433480194:=by
 have h1:=BA' 5 i
 have h5:len 5=1:=by decide +kernel
 rw [h5] at h1
 have h2:=Ap a (5^i)
 have h3:=Ap (a*5^i) (2^j)
 have h4:=Dz' j
 omega
theorem Di {w:World} {vx:Value} {x:Rat} (hx:Ac' w vx x) (hs:Aa' x≤536870912) (hT:TabAt 0 Lib.deBruijn64tab w) (hn:x.num<0)
   (hd:¬ x.den=2^vp 2 x.den*5^vp 5 x.den):Calls Tryz.prog 14 #[vx] w (A9' w (AH x)):=by
 obtain ⟨A1,c1,A2,c2,rfl,hx1,hx2⟩:=hx.opened
 have hng:decide (x.num<0)=true:=dT_ hn
 have HTX:Hid (AH x=[45]++(AB x.num.natAbs++[47]++AB x.den)):=by
   show _=_
   unfold AH
   rw [if_pos hn,if_neg hd]
 have HDD:=hid hd
 have l1:=Al' x
 have l2:=Am x
 have HL:=hid (show len x.num.natAbs≤536870912∧len x.den≤536870912 by omega)
 have hd0:0<x.den:=x.den_pos
 rw [hng] at hx ⊢
 obtain ⟨wB,hwB⟩:=eX (w.alloc (.cells #[.bool true,.slice A1 (len x.num.natAbs) c1,.slice A2 (len (below x.den)) c2] 33))
 have b0:Below w.heap.size w wB:=by rw [hwB];exact (Below.refl _ _).alloc (nL _) _
 have gA:wB.heap[w.heap.size]?=some (.cells #[.bool true,.slice A1 (len x.num.natAbs) c1,.slice A2 (len (below x.den)) c2] 33 (0,0)):=by rw [hwB];exact hA_ w _
 obtain ⟨k0,k1,k2⟩:=Ab' gA
 have HSZ:Hid (wB.heap.size=w.heap.size+1):=by show _=_;rw [hwB];simp
 have hxB:=hx.keep b0
 have hx1B:=hx1.keep b0
 have HTB:=hid (Aq hT b0)
 have HB0:=hid b0
 have HC:=hid (As hxB)
 have hlt1:w.heap.size<w.heap.size+1:=by omega
 clear hng hn hd hs l1 l2 gA b0 hT hx hxB hx1 hx2
 go_enter Tryz.func14,Tryz.ntmps14
 go_wp2_with fail
 rw [←hwB]
 clear hwB
 refine (HC.out).mono ?_
 rintro e w1 ⟨vb,rfl,hvb,b1⟩
 have hT1:=Aq HTB.out b1
 have hx1':=hx1B.keep b1
 have HB1:=hid b1
 have HC2:=hid (CW hvb (nT HL.out.2 (by decide)) hd0 hT1)
 have hvb1:=hvb
 clear b1 HC hT1 hx1B hvb
 go_wp2_with fail
 refine (HC2.out).mono ?_
 rintro e w2 ⟨t,b,rfl,het,hodd,rfl⟩
 have hb0:0<b:=by omega
 have ht36:t≤34359738368:=Bz (p:=2) hb0 (by omega) (by rw [←het];exact HL.out.2)
 have hti:((t:Nat):Int)≤34359738368:=by omega
 have hshr:x.den / 2^t=b:=by rw [het,Nat.mul_div_cancel _ (Nat.two_pow_pos t)]
 have HC3:=hid (Ct (n:=t) hvb1 (nT HL.out.2 (by decide)) (nT ht36 (by decide)))
 rw [hshr] at HC3
 have HET:=hid het;have HODD:=hid hodd
 clear HC2 hshr het hodd
 go_wp2_with fail
 refine (HC3.out).mono ?_
 rintro e w3 ⟨v3,rfl,hv3,b3⟩
 have hlb:len b≤536870912:=nT (Ah (by rw [HET.out];exact Nat.le_mul_of_pos_right _ (Nat.two_pow_pos t))) HL.out.2
 have HC4:=hid (CF' hv3 (nT hlb (by decide)) hb0)
 have hx3:=hx1'.keep b3
 have hvb3:=hvb1.keep b3
 have HB3:=hid (HB1.out.trans (b3.mono HB1.out.size))
 have HLB:=hid hlb
 clear b3 HC3 hlb hx1' hvb1 HB1
 go_wp2_with fail
 refine (HC4.out).mono ?_
 rintro e w4 ⟨r,f,v4,rfl,hv4,hef,hr5,b4⟩
 have hr0:0<r:=by
   rcases Nat.eq_zero_or_pos r with h | h
   · subst h;simp at hr5
   · exact h
 have hf36:f≤34359738368:=Bz (p:=5) hr0 (by omega) (by rw [←hef];exact HLB.out)
 have hfi:((f:Nat):Int)≤34359738368:=by omega
 have HTP:=hid (Cq HET.out HODD.out hef hr5)
 have HIS:=hid (Be' hv4)
 have hone:decide (r=1)=false:=by
   obtain ⟨e1,e2,e3⟩:=HTP.out
   have:=HDD.out
   rw [e1,e2,e3] at this
   exact dF_ this
 rw [hone] at HIS
 have hx4:=hx3.keep b4
 have hvb4:=hvb3.keep b4
 have HB4:=hid (HB3.out.trans (b4.mono HB3.out.size))
 clear hone b4 hef hr5 hx3 hvb3 HB3 HC4 hv3 hv4
 have hc4:=Ao (show Below (w.heap.size+1) wB w4 from by rw [←HSZ.out];exact HB4.out)
 go_wp2_with fail
 refine (HIS.out).mono ?_
 rintro e w5 ⟨rfl,rfl⟩
 have HD1:=hid (Bq' hx4 (nT HL.out.1 (by decide)))
 have z1:=Cu x.num.natAbs
 have z2:=Cu x.den
 have HZ:=hid (And.intro z1 z2)
 clear z1 z2
 go_wp2_with fail
 refine (HD1.out).mono ?_
 rintro e w6 ⟨rfl,b6⟩
 have hvb6:=hvb4.keep b6
 have HD2:=hid (Bq' hvb6 (nT HL.out.2 (by decide)))
 have HB6:=hid (HB4.out.trans (b6.mono HB4.out.size))
 obtain ⟨s1,hs1⟩:=eX (⟨(AB x.num.natAbs).toArray⟩:ByteArray)
 rw [←hs1]
 have g1:((s1.size:Nat):Int)≤10737418241:=by
   have:s1.size=(AB x.num.natAbs).length:=by rw [hs1];rfl
   have:=HZ.out.1;have:=HL.out.1
   omega
 have HS1:=hid hs1
 clear hs1 b6 HD1
 go_wp2_with fail
 refine (HD2.out).mono ?_
 rintro e w7 ⟨rfl,b7⟩
 obtain ⟨s2,hs2⟩:=eX (⟨(AB x.den).toArray⟩:ByteArray)
 rw [←hs2]
 have g2:((s2.size:Nat):Int)≤10737418241:=by
   have:s2.size=(AB x.den).length:=by rw [hs2];rfl
   have:=HZ.out.2;have:=HL.out.2
   omega
 have HS2:=hid hs2
 have HF:=hid (HB0.out.trans ((HB6.out.trans (b7.mono HB6.out.size)).mono HB0.out.size))
 clear hs2 b7 HD2
 go_wp2_with fail
 go_ret
 refine ⟨?_,HF.out⟩
 rw [HTX.out]
 have e:=BI' (b:=⟨#[45]⟩++s1++⟨#[47]⟩++s2) (l:=[45]++(AB x.num.natAbs++[47]++AB x.den)) (by rw [AA,AA,AA,HS1.out,HS2.out];simp)
 rw [←e]
 rfl
theorem Dc {w:World} {vx:Value} {x:Rat} (hx:Ac' w vx x) (hs:Aa' x≤536870912) (hT:TabAt 0 Lib.deBruijn64tab w) (hn:x.num<0)
   (hd:x.den=2^vp 2 x.den*5^vp 5 x.den):Calls Tryz.prog 14 #[vx] w (A9' w (AH x)):=by
 obtain ⟨A1,c1,A2,c2,rfl,hx1,hx2⟩:=hx.opened
 have hng:decide (x.num<0)=true:=dT_ hn
 have HTX:Hid (AH x=[45]++AR' (AB (x.num.natAbs*5^(max (vp 2 x.den) (vp 5 x.den) - vp 5 x.den)*2^(max (vp 2 x.den) (vp 5 x.den) - vp 2 x.den))) (max (vp 2 x.den) (vp 5 x.den))):=by
   show _=_
   unfold AH
   rw [if_pos hn,if_pos hd]
 have HDD:=hid hd
 have l1:=Al' x
 have l2:=Am x
 have HL:=hid (show len x.num.natAbs≤536870912∧len x.den≤536870912 by omega)
 have hd0:0<x.den:=x.den_pos
 rw [hng] at hx ⊢
 obtain ⟨wB,hwB⟩:=eX (w.alloc (.cells #[.bool true,.slice A1 (len x.num.natAbs) c1,.slice A2 (len (below x.den)) c2] 33))
 have b0:Below w.heap.size w wB:=by rw [hwB];exact (Below.refl _ _).alloc (nL _) _
 have gA:wB.heap[w.heap.size]?=some (.cells #[.bool true,.slice A1 (len x.num.natAbs) c1,.slice A2 (len (below x.den)) c2] 33 (0,0)):=by rw [hwB];exact hA_ w _
 obtain ⟨k0,k1,k2⟩:=Ab' gA
 have HSZ:Hid (wB.heap.size=w.heap.size+1):=by show _=_;rw [hwB];simp
 have hxB:=hx.keep b0
 have hx1B:=hx1.keep b0
 have HTB:=hid (Aq hT b0)
 have HB0:=hid b0
 have HC:=hid (As hxB)
 have hlt1:w.heap.size<w.heap.size+1:=by omega
 clear hng hn hd hs l1 l2 gA b0 hT hx hxB hx1 hx2
 go_enter Tryz.func14,Tryz.ntmps14
 go_wp2_with fail
 rw [←hwB]
 clear hwB
 refine (HC.out).mono ?_
 rintro e w1 ⟨vb,rfl,hvb,b1⟩
 have hT1:=Aq HTB.out b1
 have hx1':=hx1B.keep b1
 have HB1:=hid b1
 have HC2:=hid (CW hvb (nT HL.out.2 (by decide)) hd0 hT1)
 have hvb1:=hvb
 clear b1 HC hT1 hx1B hvb
 go_wp2_with fail
 refine (HC2.out).mono ?_
 rintro e w2 ⟨t,b,rfl,het,hodd,rfl⟩
 have hb0:0<b:=by omega
 have ht36:t≤34359738368:=Bz (p:=2) hb0 (by omega) (by rw [←het];exact HL.out.2)
 have hti:((t:Nat):Int)≤34359738368:=by omega
 have hshr:x.den / 2^t=b:=by rw [het,Nat.mul_div_cancel _ (Nat.two_pow_pos t)]
 have HC3:=hid (Ct (n:=t) hvb1 (nT HL.out.2 (by decide)) (nT ht36 (by decide)))
 rw [hshr] at HC3
 have HET:=hid het;have HODD:=hid hodd
 clear HC2 hshr het hodd
 go_wp2_with fail
 refine (HC3.out).mono ?_
 rintro e w3 ⟨v3,rfl,hv3,b3⟩
 have hlb:len b≤536870912:=nT (Ah (by rw [HET.out];exact Nat.le_mul_of_pos_right _ (Nat.two_pow_pos t))) HL.out.2
 have HC4:=hid (CF' hv3 (nT hlb (by decide)) hb0)
 have hx3:=hx1'.keep b3
 have hvb3:=hvb1.keep b3
 have HB3:=hid (HB1.out.trans (b3.mono HB1.out.size))
 have HLB:=hid hlb
 clear b3 HC3 hlb hx1' hvb1 HB1
 go_wp2_with fail
 refine (HC4.out).mono ?_
 rintro e w4 ⟨r,f,v4,rfl,hv4,hef,hr5,b4⟩
 have hr0:0<r:=by
   rcases Nat.eq_zero_or_pos r with h | h
   · subst h;simp at hr5
   · exact h
 have hf36:f≤34359738368:=Bz (p:=5) hr0 (by omega) (by rw [←hef];exact HLB.out)
 have hfi:((f:Nat):Int)≤34359738368:=by omega
 have HTP:=hid (Cq HET.out HODD.out hef hr5)
 have HIS:=hid (Be' hv4)
 have hone:decide (r=1)=true:=by
   obtain ⟨e1,e2,e3⟩:=HTP.out
   have:=HDD.out
   rw [e1,e2,e3] at this
   exact dT_ this
 rw [hone] at HIS
 have hx4:=hx3.keep b4
 have hvb4:=hvb3.keep b4
 have HB4:=hid (HB3.out.trans (b4.mono HB3.out.size))
 clear hone b4 hef hr5 hx3 hvb3 HB3 HC4 hv3 hv4
 have hc4:=Ao (show Below (w.heap.size+1) wB w4 from by rw [←HSZ.out];exact HB4.out)
 go_wp2_with fail
 refine (HIS.out).mono ?_
 rintro e w5 ⟨rfl,rfl⟩
 obtain ⟨m,hmd⟩:=eX (max t f)
 have hm:max ((t:Nat):Int) ((f:Nat):Int)=((m:Nat):Int):=by omega
 have HMD:=hid hmd
 have hmt:t≤m:=by omega
 have hmf:f≤m:=by omega
 have hm36:m≤34359738368:=by omega
 have hmi:((m:Nat):Int)≤34359738368:=by omega
 have q1:IntKind.i64.wrap (((m:Nat):Int) - ((f:Nat):Int))=((m - f:Nat):Int):=by rw [IntKind.wrap_i64];omega
 have q2:IntKind.i64.wrap (((m:Nat):Int) - ((t:Nat):Int))=((m - t:Nat):Int):=by rw [IntKind.wrap_i64];omega
 have q3:((m - t:Nat):Int)≤34359738368:=by omega
 have q4:IntKind.u64.wrap ((m - t:Nat):Int)=((m - t:Nat):Int):=Cb (by omega)
 have Q4:=hid q4
 have HSC:=hid (D0 (a:=x.num.natAbs) (i:=m - f) (j:=m - t) HL.out.1 (by omega) (by omega))
 have hbG:Below (w.heap.size+1) wB w4:=by rw [←HSZ.out];exact HB4.out
 have H4:=Af.begin (wS:=w4) hbG rfl
 have HG:=Nat.le_of_eq HSZ.out.symm
 have H4a:Af wB (w.heap.size+1) w4 (w4.alloc (.cells #[.int .u64 5] 86)).drew:=(Af.plain hbG).alloc_drew HG _
 have H5n:=Ev' w4
 have H4i:(∀ b o,b<w.heap.size+1→w4.drew.cell? ⟨b,o,none⟩=wB.cell? ⟨b,o,none⟩)∧Below (w.heap.size+1) wB w4.drew∧Aj w4 w4.drew:=H4
 have H4j:(∀ b o,b<w.heap.size+1→(w4.alloc (.cells #[.int .u64 5] 86)).drew.cell? ⟨b,o,none⟩=wB.cell? ⟨b,o,none⟩)∧Below (w.heap.size+1) wB (w4.alloc (.cells #[.int .u64 5] 86)).drew∧Aj w4 (w4.alloc (.cells #[.int .u64 5] 86)).drew:=H4a
 clear hmd hmt hmf hbG
 go_upto_region 10 with fail
 try rw [hm]
 clear hm
 go_region_held3 (fun w'=>(∀ b o,b<w.heap.size+1→w'.cell? ⟨b,o,none⟩=wB.cell? ⟨b,o,none⟩)∧Below (w.heap.size+1) wB w'∧Aj w4 w')
   (first | with_reducible exact H4i | with_reducible exact H4j | exact hk7 | exact hk6 | exact hk5)
   (first | (go_at_call 50;refine (BE' (w:=(w4.alloc (.cells #[.int .u64 5] 86)).drew) (a:=5) (n:=m - f) H5n (by omega) (by rw [CX];omega) (by rw [CX];decide)).mono ?_;rintro e w5 ⟨v5,rfl,hv5,hbl5⟩;have hk5:=Af.call H4a HG hbl5) | (go_at_call 57;refine (AP' (hk5.2.2 _ _ hx4) hv5 (nT HL.out.1 (by decide)) (nT HSC.out.1 (by decide))).mono ?_;rintro e w6 ⟨v6,rfl,hv6,hbl6⟩;have hk6:=Af.call hk5 HG hbl6) | (go_at_call 58;(try rw [Q4.out]);refine (CK' (n:=m - t) hv6 (nT HSC.out.2.1 (by decide)) (by omega)).mono ?_;rintro e w7 ⟨v7,rfl,hv7,hbl7⟩;have hk7:=Af.call hk6 HG hbl7))
 rename_i hHl
 clear hHl q1 q2 q4
 have HD1:=hid (Bq' hv7 (nT HSC.out.2.2 (by decide)))
 have HZ:=hid (Cu (x.num.natAbs*5^(m - f)*2^(m - t)))
 have HB7:=hid (HB0.out.trans (hk7.2.1.mono (Nat.le_succ _)))
 clear hk5 hk6 hbl5 hbl6 hbl7 hv5 hv6 hv7 H4 hc4
 go_wp2_with fail
 refine (HD1.out).mono ?_
 rintro e w8 ⟨rfl,b8⟩
 have HPT:=hid (DD' (w:=w8) (l:=AB (x.num.natAbs*5^(m - f)*2^(m - t))) (p:=m) (by omega) (by have:=HZ.out;have:=HSC.out.2.2;omega))
 have HZ2:=hid (Ew (l:=AB (x.num.natAbs*5^(m - f)*2^(m - t))) (p:=m) (by have:=HZ.out;have:=HSC.out.2.2;omega) hm36)
 have HB8:=hid (chain HB7.out b8)
 clear b8 HD1
 go_wp2_with fail
 refine (HPT.out).mono ?_
 rintro e w9 ⟨rfl,b9⟩
 obtain ⟨s1,hs1⟩:=eX (⟨(AR' (AB (x.num.natAbs*5^(m - f)*2^(m - t))) m).toArray⟩:ByteArray)
 rw [←hs1]
 have g1:((s1.size:Nat):Int)≤70368744177664:=by
   have:s1.size=(AR' (AB (x.num.natAbs*5^(m - f)*2^(m - t))) m).length:=by rw [hs1];rfl
   have:=HZ2.out
   omega
 have HS1:=hid hs1
 have HF:=hid (chain HB8.out b9)
 clear hs1 b9 HPT
 go_wp2_with fail
 go_ret
 refine ⟨?_,HF.out⟩
 rw [HTX.out]
 have e:=BI' (b:=⟨#[45]⟩++s1) (l:=[45]++AR' (AB (x.num.natAbs*5^(m - f)*2^(m - t))) m) (by rw [AA,HS1.out])
 obtain ⟨e1,e2,e3⟩:=HTP.out
 rw [e1,e2,←HMD.out,←e]
 rfl
theorem Di' {w:World} {vx:Value} {x:Rat} (hx:Ac' w vx x) (hs:Aa' x≤536870912) (hT:TabAt 0 Lib.deBruijn64tab w) (hn:¬ x.num<0)
   (hd:¬ x.den=2^vp 2 x.den*5^vp 5 x.den):Calls Tryz.prog 14 #[vx] w (A9' w (AH x)):=by
 obtain ⟨A1,c1,A2,c2,rfl,hx1,hx2⟩:=hx.opened
 have hng:decide (x.num<0)=false:=dF_ hn
 have HTX:Hid (AH x=[]++(AB x.num.natAbs++[47]++AB x.den)):=by
   show _=_
   unfold AH
   rw [if_neg hn,if_neg hd]
 have HDD:=hid hd
 have l1:=Al' x
 have l2:=Am x
 have HL:=hid (show len x.num.natAbs≤536870912∧len x.den≤536870912 by omega)
 have hd0:0<x.den:=x.den_pos
 rw [hng] at hx ⊢
 obtain ⟨wB,hwB⟩:=eX (w.alloc (.cells #[.bool false,.slice A1 (len x.num.natAbs) c1,.slice A2 (len (below x.den)) c2] 33))
 have b0:Below w.heap.size w wB:=by rw [hwB];exact (Below.refl _ _).alloc (nL _) _
 have gA:wB.heap[w.heap.size]?=some (.cells #[.bool false,.slice A1 (len x.num.natAbs) c1,.slice A2 (len (below x.den)) c2] 33 (0,0)):=by rw [hwB];exact hA_ w _
 obtain ⟨k0,k1,k2⟩:=Ab' gA
 have HSZ:Hid (wB.heap.size=w.heap.size+1):=by show _=_;rw [hwB];simp
 have hxB:=hx.keep b0
 have hx1B:=hx1.keep b0
 have HTB:=hid (Aq hT b0)
 have HB0:=hid b0
 have HC:=hid (As hxB)
 have hlt1:w.heap.size<w.heap.size+1:=by omega
 clear hng hn hd hs l1 l2 gA b0 hT hx hxB hx1 hx2
 go_enter Tryz.func14,Tryz.ntmps14
 go_wp2_with fail
 rw [←hwB]
 clear hwB
 refine (HC.out).mono ?_
 rintro e w1 ⟨vb,rfl,hvb,b1⟩
 have hT1:=Aq HTB.out b1
 have hx1':=hx1B.keep b1
 have HB1:=hid b1
 have HC2:=hid (CW hvb (nT HL.out.2 (by decide)) hd0 hT1)
 have hvb1:=hvb
 clear b1 HC hT1 hx1B hvb
 go_wp2_with fail
 refine (HC2.out).mono ?_
 rintro e w2 ⟨t,b,rfl,het,hodd,rfl⟩
 have hb0:0<b:=by omega
 have ht36:t≤34359738368:=Bz (p:=2) hb0 (by omega) (by rw [←het];exact HL.out.2)
 have hti:((t:Nat):Int)≤34359738368:=by omega
 have hshr:x.den / 2^t=b:=by rw [het,Nat.mul_div_cancel _ (Nat.two_pow_pos t)]
 have HC3:=hid (Ct (n:=t) hvb1 (nT HL.out.2 (by decide)) (nT ht36 (by decide)))
 rw [hshr] at HC3
 have HET:=hid het;have HODD:=hid hodd
 clear HC2 hshr het hodd
 go_wp2_with fail
 refine (HC3.out).mono ?_
 rintro e w3 ⟨v3,rfl,hv3,b3⟩
 have hlb:len b≤536870912:=nT (Ah (by rw [HET.out];exact Nat.le_mul_of_pos_right _ (Nat.two_pow_pos t))) HL.out.2
 have HC4:=hid (CF' hv3 (nT hlb (by decide)) hb0)
 have hx3:=hx1'.keep b3
 have hvb3:=hvb1.keep b3
 have HB3:=hid (HB1.out.trans (b3.mono HB1.out.size))
 have HLB:=hid hlb
 clear b3 HC3 hlb hx1' hvb1 HB1
 go_wp2_with fail
 refine (HC4.out).mono ?_
 rintro e w4 ⟨r,f,v4,rfl,hv4,hef,hr5,b4⟩
 have hr0:0<r:=by
   rcases Nat.eq_zero_or_pos r with h | h
   · subst h;simp at hr5
   · exact h
 have hf36:f≤34359738368:=Bz (p:=5) hr0 (by omega) (by rw [←hef];exact HLB.out)
 have hfi:((f:Nat):Int)≤34359738368:=by omega
 have HTP:=hid (Cq HET.out HODD.out hef hr5)
 have HIS:=hid (Be' hv4)
 have hone:decide (r=1)=false:=by
   obtain ⟨e1,e2,e3⟩:=HTP.out
   have:=HDD.out
   rw [e1,e2,e3] at this
   exact dF_ this
 rw [hone] at HIS
 have hx4:=hx3.keep b4
 have hvb4:=hvb3.keep b4
 have HB4:=hid (HB3.out.trans (b4.mono HB3.out.size))
 clear hone b4 hef hr5 hx3 hvb3 HB3 HC4 hv3 hv4
 have hc4:=Ao (show Below (w.heap.size+1) wB w4 from by rw [←HSZ.out];exact HB4.out)
 go_wp2_with fail
 refine (HIS.out).mono ?_
 rintro e w5 ⟨rfl,rfl⟩
 have HD1:=hid (Bq' hx4 (nT HL.out.1 (by decide)))
 have z1:=Cu x.num.natAbs
 have z2:=Cu x.den
 have HZ:=hid (And.intro z1 z2)
 clear z1 z2
 go_wp2_with fail
 refine (HD1.out).mono ?_
 rintro e w6 ⟨rfl,b6⟩
 have hvb6:=hvb4.keep b6
 have HD2:=hid (Bq' hvb6 (nT HL.out.2 (by decide)))
 have HB6:=hid (HB4.out.trans (b6.mono HB4.out.size))
 obtain ⟨s1,hs1⟩:=eX (⟨(AB x.num.natAbs).toArray⟩:ByteArray)
 rw [←hs1]
 have g1:((s1.size:Nat):Int)≤10737418241:=by
   have:s1.size=(AB x.num.natAbs).length:=by rw [hs1];rfl
   have:=HZ.out.1;have:=HL.out.1
   omega
 have HS1:=hid hs1
 clear hs1 b6 HD1
 go_wp2_with fail
 refine (HD2.out).mono ?_
 rintro e w7 ⟨rfl,b7⟩
 obtain ⟨s2,hs2⟩:=eX (⟨(AB x.den).toArray⟩:ByteArray)
 rw [←hs2]
 have g2:((s2.size:Nat):Int)≤10737418241:=by
   have:s2.size=(AB x.den).length:=by rw [hs2];rfl
   have:=HZ.out.2;have:=HL.out.2
   omega
 have HS2:=hid hs2
 have HF:=hid (HB0.out.trans ((HB6.out.trans (b7.mono HB6.out.size)).mono HB0.out.size))
 clear hs2 b7 HD2
 go_wp2_with fail
 go_ret
 refine ⟨?_,HF.out⟩
 rw [HTX.out]
 have e:=BI' (b:=⟨#[]⟩++s1++⟨#[47]⟩++s2) (l:=[]++(AB x.num.natAbs++[47]++AB x.den)) (by rw [AA,AA,AA,HS1.out,HS2.out];simp)
 rw [←e]
 rfl
theorem Dc' {w:World} {vx:Value} {x:Rat} (hx:Ac' w vx x) (hs:Aa' x≤536870912) (hT:TabAt 0 Lib.deBruijn64tab w) (hn:¬ x.num<0)
   (hd:x.den=2^vp 2 x.den*5^vp 5 x.den):Calls Tryz.prog 14 #[vx] w (A9' w (AH x)):=by
 obtain ⟨A1,c1,A2,c2,rfl,hx1,hx2⟩:=hx.opened
 have hng:decide (x.num<0)=false:=dF_ hn
 have HTX:Hid (AH x=[]++AR' (AB (x.num.natAbs*5^(max (vp 2 x.den) (vp 5 x.den) - vp 5 x.den)*2^(max (vp 2 x.den) (vp 5 x.den) - vp 2 x.den))) (max (vp 2 x.den) (vp 5 x.den))):=by
   show _=_
   unfold AH
   rw [if_neg hn,if_pos hd]
 have HDD:=hid hd
 have l1:=Al' x
 have l2:=Am x
 have HL:=hid (show len x.num.natAbs≤536870912∧len x.den≤536870912 by omega)
 have hd0:0<x.den:=x.den_pos
 rw [hng] at hx ⊢
 obtain ⟨wB,hwB⟩:=eX (w.alloc (.cells #[.bool false,.slice A1 (len x.num.natAbs) c1,.slice A2 (len (below x.den)) c2] 33))
 have b0:Below w.heap.size w wB:=by rw [hwB];exact (Below.refl _ _).alloc (nL _) _
 have gA:wB.heap[w.heap.size]?=some (.cells #[.bool false,.slice A1 (len x.num.natAbs) c1,.slice A2 (len (below x.den)) c2] 33 (0,0)):=by rw [hwB];exact hA_ w _
 obtain ⟨k0,k1,k2⟩:=Ab' gA
 have HSZ:Hid (wB.heap.size=w.heap.size+1):=by show _=_;rw [hwB];simp
 have hxB:=hx.keep b0
 have hx1B:=hx1.keep b0
 have HTB:=hid (Aq hT b0)
 have HB0:=hid b0
 have HC:=hid (As hxB)
 have hlt1:w.heap.size<w.heap.size+1:=by omega
 clear hng hn hd hs l1 l2 gA b0 hT hx hxB hx1 hx2
 go_enter Tryz.func14,Tryz.ntmps14
 go_wp2_with fail
 rw [←hwB]
 clear hwB
 refine (HC.out).mono ?_
 rintro e w1 ⟨vb,rfl,hvb,b1⟩
 have hT1:=Aq HTB.out b1
 have hx1':=hx1B.keep b1
 have HB1:=hid b1
 have HC2:=hid (CW hvb (nT HL.out.2 (by decide)) hd0 hT1)
 have hvb1:=hvb
 clear b1 HC hT1 hx1B hvb
 go_wp2_with fail
 refine (HC2.out).mono ?_
 rintro e w2 ⟨t,b,rfl,het,hodd,rfl⟩
 have hb0:0<b:=by omega
 have ht36:t≤34359738368:=Bz (p:=2) hb0 (by omega) (by rw [←het];exact HL.out.2)
 have hti:((t:Nat):Int)≤34359738368:=by omega
 have hshr:x.den / 2^t=b:=by rw [het,Nat.mul_div_cancel _ (Nat.two_pow_pos t)]
 have HC3:=hid (Ct (n:=t) hvb1 (nT HL.out.2 (by decide)) (nT ht36 (by decide)))
 rw [hshr] at HC3
 have HET:=hid het;have HODD:=hid hodd
 clear HC2 hshr het hodd
 go_wp2_with fail
 refine (HC3.out).mono ?_
 rintro e w3 ⟨v3,rfl,hv3,b3⟩
 have hlb:len b≤536870912:=nT (Ah (by rw [HET.out];exact Nat.le_mul_of_pos_right _ (Nat.two_pow_pos t))) HL.out.2
 have HC4:=hid (CF' hv3 (nT hlb (by decide)) hb0)
 have hx3:=hx1'.keep b3
 have hvb3:=hvb1.keep b3
 have HB3:=hid (HB1.out.trans (b3.mono HB1.out.size))
 have HLB:=hid hlb
 clear b3 HC3 hlb hx1' hvb1 HB1
 go_wp2_with fail
 refine (HC4.out).mono ?_
 rintro e w4 ⟨r,f,v4,rfl,hv4,hef,hr5,b4⟩
 have hr0:0<r:=by
   rcases Nat.eq_zero_or_pos r with h | h
   · subst h;simp at hr5
   · exact h
 have hf36:f≤34359738368:=Bz (p:=5) hr0 (by omega) (by rw [←hef];exact HLB.out)
 have hfi:((f:Nat):Int)≤34359738368:=by omega
 have HTP:=hid (Cq HET.out HODD.out hef hr5)
 have HIS:=hid (Be' hv4)
 have hone:decide (r=1)=true:=by
   obtain ⟨e1,e2,e3⟩:=HTP.out
   have:=HDD.out
   rw [e1,e2,e3] at this
   exact dT_ this
 rw [hone] at HIS
 have hx4:=hx3.keep b4
 have hvb4:=hvb3.keep b4
 have HB4:=hid (HB3.out.trans (b4.mono HB3.out.size))
 clear hone b4 hef hr5 hx3 hvb3 HB3 HC4 hv3 hv4
 have hc4:=Ao (show Below (w.heap.size+1) wB w4 from by rw [←HSZ.out];exact HB4.out)
 go_wp2_with fail
 refine (HIS.out).mono ?_
 rintro e w5 ⟨rfl,rfl⟩
 obtain ⟨m,hmd⟩:=eX (max t f)
 have hm:max ((t:Nat):Int) ((f:Nat):Int)=((m:Nat):Int):=by omega
 have HMD:=hid hmd
 have hmt:t≤m:=by omega
 have hmf:f≤m:=by omega
 have hm36:m≤34359738368:=by omega
 have hmi:((m:Nat):Int)≤34359738368:=by omega
 have q1:IntKind.i64.wrap (((m:Nat):Int) - ((f:Nat):Int))=((m - f:Nat):Int):=by rw [IntKind.wrap_i64];omega
 have q2:IntKind.i64.wrap (((m:Nat):Int) - ((t:Nat):Int))=((m - t:Nat):Int):=by rw [IntKind.wrap_i64];omega
 have q3:((m - t:Nat):Int)≤34359738368:=by omega
 have q4:IntKind.u64.wrap ((m - t:Nat):Int)=((m - t:Nat):Int):=Cb (by omega)
 have Q4:=hid q4
 have HSC:=hid (D0 (a:=x.num.natAbs) (i:=m - f) (j:=m - t) HL.out.1 (by omega) (by omega))
 have hbG:Below (w.heap.size+1) wB w4:=by rw [←HSZ.out];exact HB4.out
 have H4:=Af.begin (wS:=w4) hbG rfl
 have HG:=Nat.le_of_eq HSZ.out.symm
 have H4a:Af wB (w.heap.size+1) w4 (w4.alloc (.cells #[.int .u64 5] 86)).drew:=(Af.plain hbG).alloc_drew HG _
 have H5n:=Ev' w4
 have H4i:(∀ b o,b<w.heap.size+1→w4.drew.cell? ⟨b,o,none⟩=wB.cell? ⟨b,o,none⟩)∧Below (w.heap.size+1) wB w4.drew∧Aj w4 w4.drew:=H4
 have H4j:(∀ b o,b<w.heap.size+1→(w4.alloc (.cells #[.int .u64 5] 86)).drew.cell? ⟨b,o,none⟩=wB.cell? ⟨b,o,none⟩)∧Below (w.heap.size+1) wB (w4.alloc (.cells #[.int .u64 5] 86)).drew∧Aj w4 (w4.alloc (.cells #[.int .u64 5] 86)).drew:=H4a
 clear hmd hmt hmf hbG
 go_upto_region 10 with fail
 try rw [hm]
 clear hm
 go_region_held3 (fun w'=>(∀ b o,b<w.heap.size+1→w'.cell? ⟨b,o,none⟩=wB.cell? ⟨b,o,none⟩)∧Below (w.heap.size+1) wB w'∧Aj w4 w')
   (first | with_reducible exact H4i | with_reducible exact H4j | exact hk7 | exact hk6 | exact hk5)
   (first | (go_at_call 50;refine (BE' (w:=(w4.alloc (.cells #[.int .u64 5] 86)).drew) (a:=5) (n:=m - f) H5n (by omega) (by rw [CX];omega) (by rw [CX];decide)).mono ?_;rintro e w5 ⟨v5,rfl,hv5,hbl5⟩;have hk5:=Af.call H4a HG hbl5) | (go_at_call 57;refine (AP' (hk5.2.2 _ _ hx4) hv5 (nT HL.out.1 (by decide)) (nT HSC.out.1 (by decide))).mono ?_;rintro e w6 ⟨v6,rfl,hv6,hbl6⟩;have hk6:=Af.call hk5 HG hbl6) | (go_at_call 58;(try rw [Q4.out]);refine (CK' (n:=m - t) hv6 (nT HSC.out.2.1 (by decide)) (by omega)).mono ?_;rintro e w7 ⟨v7,rfl,hv7,hbl7⟩;have hk7:=Af.call hk6 HG hbl7))
 rename_i hHl
 clear hHl q1 q2 q4
 have HD1:=hid (Bq' hv7 (nT HSC.out.2.2 (by decide)))
 have HZ:=hid (Cu (x.num.natAbs*5^(m - f)*2^(m - t)))
 have HB7:=hid (HB0.out.trans (hk7.2.1.mono (Nat.le_succ _)))
 clear hk5 hk6 hbl5 hbl6 hbl7 hv5 hv6 hv7 H4 hc4
 go_wp2_with fail
 refine (HD1.out).mono ?_
 rintro e w8 ⟨rfl,b8⟩
 have HPT:=hid (DD' (w:=w8) (l:=AB (x.num.natAbs*5^(m - f)*2^(m - t))) (p:=m) (by omega) (by have:=HZ.out;have:=HSC.out.2.2;omega))
 have HZ2:=hid (Ew (l:=AB (x.num.natAbs*5^(m - f)*2^(m - t))) (p:=m) (by have:=HZ.out;have:=HSC.out.2.2;omega) hm36)
 have HB8:=hid (chain HB7.out b8)
 clear b8 HD1
 go_wp2_with fail
 refine (HPT.out).mono ?_
 rintro e w9 ⟨rfl,b9⟩
 obtain ⟨s1,hs1⟩:=eX (⟨(AR' (AB (x.num.natAbs*5^(m - f)*2^(m - t))) m).toArray⟩:ByteArray)
 rw [←hs1]
 have g1:((s1.size:Nat):Int)≤70368744177664:=by
   have:s1.size=(AR' (AB (x.num.natAbs*5^(m - f)*2^(m - t))) m).length:=by rw [hs1];rfl
   have:=HZ2.out
   omega
 have HS1:=hid hs1
 have HF:=hid (chain HB8.out b9)
 clear hs1 b9 HPT
 go_wp2_with fail
 go_ret
 refine ⟨?_,HF.out⟩
 rw [HTX.out]
 have e:=BI' (b:=⟨#[]⟩++s1) (l:=[]++AR' (AB (x.num.natAbs*5^(m - f)*2^(m - t))) m) (by rw [AA,HS1.out])
 obtain ⟨e1,e2,e3⟩:=HTP.out
 rw [e1,e2,←HMD.out,←e]
 rfl
theorem Db' {w:World} {vx:Value} {x:Rat} (hx:Ac' w vx x) (hs:Aa' x≤536870912) (hT:TabAt 0 Lib.deBruijn64tab w) :
   Calls Tryz.prog 14 #[vx] w (A9' w (AH x)):=by
 by_cases h1:x.num<0 <;> by_cases h2:x.den=2^vp 2 x.den*5^vp 5 x.den
 · exact Dc hx hs hT h1 h2
 · exact Di hx hs hT h1 h2
 · exact Dc' hx hs hT h1 h2
 · exact Di' hx hs hT h1 h2
def AH' (c:UInt8):Bool:=decide (48≤c.toNat∧c.toNat≤57)
def AT (l:List UInt8):Bool := !l.isEmpty && l.all AH'
def Aq' (l:List UInt8):Bool:=AT l && (l.headD 0 != 48 || l==[48])
theorem E8' {s:ByteArray} {k:Nat} (hk:k<s.size) (h:(s.data.toList.take k).all AH'=true) (hc:AH' s[k]=true):(s.data.toList.take (k+1)).all AH'=true:=by
 have e:s.data.toList.take (k+1)=s.data.toList.take k++[s[k]]:=by
   rw [List.take_succ_eq_append_getElem (by simpa using hk)];rfl
 rw [e,List.all_append,h]
 simpa using hc
theorem FS' {s:ByteArray} {k:Nat} (hk:k<s.size) (hc:AH' s[k]=false):AT s.data.toList=false:=by
 unfold AT
 have:s.data.toList.all AH'=false:=by
   rw [List.all_eq_false]
   exact ⟨s[k],(Array.mem_toList_iff).2 (Array.getElem_mem (xs:=s.data) hk),by rw [hc];decide⟩
 rw [this,Bool.and_false]
theorem CB {w:World} {s:ByteArray} (hs:s.size≤70368744177664):Calls Tryz.prog 49 #[.string s] w (Bm w (.bool (AT s.data.toList))):=by
 have hsi:((s.size:Nat):Int)≤70368744177664:=by omega
 go_enter Tryz.func49,Tryz.ntmps49
 go_wp2_with fail
 go_loop [6] (fun iv=>∃ k:Nat,k≤s.size∧iv=.int .i64 ((k:Nat):Int)∧Hid ((s.data.toList.take k).all AH'=true)) (fun iv=>s.size - (intOf iv).toNat)
 case atStart=>exact ⟨0,Nat.zero_le _,rfl,rfl⟩
 case round =>
   obtain ⟨k,hk,rfl,HA⟩:=hrel
   rcases Nat.lt_or_ge k s.size with hlt | hge
   · have hki:((k:Nat):Int)<((s.size:Nat):Int):=by omega
     by_cases hc:48≤s[k].toNat∧s[k].toNat≤57
     · have HT:=hid (E8' hlt HA.out (by unfold AH';exact dT_ hc))
       obtain ⟨hc1,hc2⟩:=hc
       have d1:decide (((s[k].toNat:Nat):Int)<48)=false:=dF_ (by omega)
       have d2:decide ((57:Int)<((s[k].toNat:Nat):Int))=false:=dF_ (by omega)
       have d3:(48:Int)≤((s[k].toNat:Nat):Int):=by omega
       have d4:((s[k].toNat:Nat):Int)≤57:=by omega
       clear hc1 hc2
       go_wp2_with fail
       go_round
       case rel=>exact ⟨k+1,by omega,by go_num,HT.out⟩
       case measure=>simp [intOf];omega
     · have HT:=hid (FS' hlt (by unfold AH';exact dF_ hc))
       by_cases h1:s[k].toNat<48
       · have d1:decide (((s[k].toNat:Nat):Int)<48)=true:=dT_ (by omega)
         have d3:((s[k].toNat:Nat):Int)<48:=by omega
         clear hc h1
         go_wp2_with fail
         go_ret
         exact By' HT.out.symm
       · have d1:decide (((s[k].toNat:Nat):Int)<48)=false:=dF_ (by omega)
         have d2:decide ((57:Int)<((s[k].toNat:Nat):Int))=true:=dT_ (by omega)
         have d3:(48:Int)≤((s[k].toNat:Nat):Int):=by omega
         have d4:(57:Int)<((s[k].toNat:Nat):Int):=by omega
         clear hc h1
         go_wp2_with fail
         go_ret
         exact By' HT.out.symm
   · obtain rfl:k=s.size:=by omega
     have HT:Hid (s.data.toList.all AH'=true):=by
       have:=HA.out
       rwa [List.take_of_length_le (show s.data.toList.length≤s.size from Nat.le_of_eq (Array.length_toList (xs:=s.data)))] at this
     have HB:Hid ((!s.toList.isEmpty)=AT s.data.toList):=by
       show _=_
       unfold AT
       rw [HT.out,Bool.and_true,ByteArray.toList_eq]
     clear HA
     go_wp2_with fail
     go_ret
     exact By' HB.out
theorem AC' (s:ByteArray):s.data.toList.length=s.size:=Array.length_toList (xs:=s.data)
theorem AT' {w:World} {s:ByteArray} (hs:s.size≤70368744177664):Calls Tryz.prog 46 #[.string s] w (Bm w (.bool (Aq' s.data.toList))):=by
 have HC:=hid (CB (w:=w) hs)
 have hsi:((s.size:Nat):Int)≤70368744177664:=by omega
 rcases hd:AT s.data.toList with _ | _
 · rw [hd] at HC
   have HW:Hid (Aq' s.data.toList=false):=by show _=_;unfold Aq';rw [hd];rfl
   clear hd
   go_enter Tryz.func46,Tryz.ntmps46
   go_wp2_with fail
   refine (HC.out).mono ?_
   rintro e w1 ⟨rfl,rfl⟩
   go_wp2_with fail
   go_ret
   exact By' HW.out.symm
 · rw [hd] at HC
   have hne:s.data.toList≠[]:=by
     intro e
     rw [e] at hd
     cases hd
   have h0:0<s.size:=by
     rw [←AC']
     exact List.length_pos_iff.2 hne
   have h0i:(0:Int)<((s.size:Nat):Int):=by omega
   have hh:s.data.toList.headD 0=s[0]:=by
     rw [List.headD_eq_head?_getD,List.head?_eq_getElem?,List.getElem?_eq_getElem (by rw [AC'];exact h0)]
     rfl
   have HW:Hid (Aq' s.data.toList=((s[0] != 48) || (s.data.toList==[48]))):=by show _=_;unfold Aq';rw [hd,hh];rfl
   clear hd hne hh
   by_cases h48:s[0].toNat=48
   · have d1:(((s[0].toNat:Nat):Int) != 48)=false:=by rw [h48];rfl
     have HE:Hid ((s[0] != 48)=false):=by
       have:s[0]=48:=UInt8.toNat_inj.1 h48
       show _=_
       rw [this];rfl
     have HL:=hid h48
     clear h48
     go_enter Tryz.func46,Tryz.ntmps46
     go_wp2_with fail
     refine (HC.out).mono ?_
     rintro e w1 ⟨rfl,rfl⟩
     go_wp2_with fail
     go_ret
     refine By' ?_
     rw [HW.out,HE.out,Bool.false_or,ByteArray.toList_eq]
   · have d1:(((s[0].toNat:Nat):Int) != 48)=true:=by rw [bne_iff_ne];omega
     have HE:Hid ((s[0] != 48)=true):=by
       show _=_
       rw [bne_iff_ne]
       intro e
       rw [e] at h48
       exact h48 rfl
     clear h48
     go_enter Tryz.func46,Tryz.ntmps46
     go_wp2_with fail
     refine (HC.out).mono ?_
     rintro e w1 ⟨rfl,rfl⟩
     go_wp2_with fail
     go_ret
     exact By' (by rw [HW.out,HE.out];rfl)
def valL (l:List UInt8):Nat:=l.foldl (fun v c=>v*10+(c.toNat - 48)) 0
theorem Ew' (l:List UInt8) (c:UInt8):valL (l++[c])=valL l*10+(c.toNat - 48):=by simp [valL,List.foldl_append]
theorem CG (l:List UInt8) (v:Nat):l.foldl (fun v c=>v*10+(c.toNat - 48)) v=v*10^l.length+valL l:=by
 unfold valL
 induction l generalizing v with
 | nil=>simp
 | cons c l ih =>
   rw [List.foldl_cons,ih,List.foldl_cons,ih (0*10+_),List.length_cons,Nat.pow_succ]
   simp only [Nat.zero_mul,Nat.zero_add,Nat.add_mul,Nat.add_assoc,Nat.mul_assoc]
   rw [Nat.mul_comm 10]
theorem FC (l m:List UInt8):valL (l++m)=valL l*10^m.length+valL m:=by
 unfold valL
 rw [List.foldl_append]
 exact CG m _
theorem Ef' {l:List UInt8} (h:l.all AH'=true):valL l<10^l.length:=by
 induction l with
 | nil=>simp [valL]
 | cons c l ih =>
   rw [List.all_cons,Bool.and_eq_true] at h
   have h1:=ih h.2
   have h2:48≤c.toNat∧c.toNat≤57:=by
     have:=h.1
     simp [AH'] at this
     exact this
   have e:valL (c::l)=(c.toNat - 48)*10^l.length+valL l:=by
     have:=CG l (0*10+(c.toNat - 48))
     have e0:0*10+(c.toNat - 48)=c.toNat - 48:=by omega
     show List.foldl _ (0*10+(c.toNat - 48)) l=_
     rw [this,e0]
   have h3:(c.toNat - 48+1)*10^l.length≤10*10^l.length:=Nat.mul_le_mul_right _ (by omega)
   rw [e,List.length_cons,Nat.pow_succ,Nat.mul_comm (10^l.length)]
   rw [Nat.add_mul,Nat.one_mul] at h3
   omega
theorem Bk {l:List UInt8} (h:l.all AH'=true):len (valL l)≤l.length+1:=by
 have h1:=Ef' h
 apply Av
 refine ltl h1 (nT (Nat.pow_le_pow_left (show 10≤W by unfold W;decide) _) (Nat.pow_le_pow_right W_pos (Nat.le_succ _)))
def IT' (s:ByteArray) (m:Nat) (sv cv iv:Value):Prop :=
  ∃ k a b:Nat,k≤m∧iv=.int .i64 ((k:Nat):Int)∧sv=.int .u64 ((a:Nat):Int)∧cv=.int .u64 ((b:Nat):Int)∧a≤10000000000000000000∧b≤10000000000000000000∧Hid (a=10^k)∧Hid (b=valL (s.data.toList.take k))
theorem E9 {s:ByteArray} {k:Nat} (hk:k<s.size) (h:s.data.toList.all AH'=true):48≤s[k].toNat∧s[k].toNat≤57:=by
 rw [List.all_eq_true] at h
 have:=h s[k] ((Array.mem_toList_iff).2 (Array.getElem_mem (xs:=s.data) hk))
 simp [AH'] at this
 exact this
theorem Dj {s:ByteArray} {k:Nat} (hk:k<s.size):s.data.toList.take (k+1)=s.data.toList.take k++[s[k]]:=by
 rw [List.take_succ_eq_append_getElem (by simpa using hk)];rfl
theorem Gl {s:ByteArray} {k a b m:Nat} (hk:k<m) (hm:m≤19) (hms:m≤s.size) (h:s.data.toList.all AH'=true) (ha:a=10^k) (hb:b=valL (s.data.toList.take k)) :
   a*10=10^(k+1)∧b*10+(s[k]'(by omega)).toNat - 48=valL (s.data.toList.take (k+1))∧a*10≤10000000000000000000∧b*10+(s[k]'(by omega)).toNat - 48≤10000000000000000000∧b*10≤10000000000000000000:=by
 have hks:k<s.size:=by omega
 have hd:=E9 hks h
 have e1:a*10=10^(k+1):=by rw [ha,Nat.pow_succ]
 have e2:b*10+s[k].toNat - 48=valL (s.data.toList.take (k+1)):=by rw [Dj hks,Ew',←hb];omega
 have h10:(10:Nat)^(k+1)≤10^19:=Nat.pow_le_pow_right (by decide) (by omega)
 have hall:(s.data.toList.take (k+1)).all AH'=true:=by
   rw [List.all_eq_true] at h ⊢
   exact fun x hx=>h x (List.mem_of_mem_take hx)
 have h3:=Ef' hall
 have h4:(10:Nat)^(s.data.toList.take (k+1)).length≤10^19:=Nat.pow_le_pow_right (by decide) (by rw [List.length_take];omega)
 rw [←Gj'] at h10 h4
 refine ⟨e1,e2,by omega,by omega,by omega⟩
def Jj' (w:World) (L:List UInt8) (k:Nat) (sv nv:Value) (wr:World):Prop :=
  ∃ s:ByteArray,sv=.string s∧s.size=k∧∃ P,Hid (L=P++s.data.toList)∧Nt wr nv (valL P)∧Below w.heap.size w wr
theorem BG {w:World} {s0:ByteArray} (hs:s0.size≤70368744177) (hd:s0.data.toList.all AH'=true) :
   Calls Tryz.prog 48 #[.string s0] w (AE' w (valL s0.data.toList)):=by
 have HALL:=hid hd
 have HSZ:=hid hs
 clear hd hs
 go_enter Tryz.func48,Tryz.ntmps48
 go_wp2_with fail
 go_loopg [0,3] s0.size (fun k sv nv wr=>Jj' w s0.data.toList k sv nv wr)
 case atStart=>exact ⟨s0,rfl,rfl,[],rfl,Nt.zero w,Below.refl _ _⟩
 case round =>
   obtain ⟨s,rfl,hk,P,HE,hn,hb⟩:=hrel
   have hps:P.length+s.size=s0.size:=by
     have:=congrArg List.length HE.out
     rw [List.length_append,AC',AC'] at this
     omega
   have hall:s.data.toList.all AH'=true:=by
     have:=HALL.out
     rw [HE.out,List.all_append,Bool.and_eq_true] at this
     exact this.2
   have hallP:P.all AH'=true:=by
     have:=HALL.out
     rw [HE.out,List.all_append,Bool.and_eq_true] at this
     exact this.1
   have hlp:=Bk hallP
   have hsz:=HSZ.out
   rcases Nat.eq_zero_or_pos s.size with h0 | h0
   · have h0i:¬ (0:Int)<((s.size:Nat):Int):=by omega
     have HV:Hid (valL P=valL s0.data.toList):=by
       show _=_
       have:s.data.toList=[]:=List.length_eq_zero_iff.1 (by rw [AC'];exact h0)
       rw [HE.out,this,List.append_nil]
     clear h0 hk
     go_wp2_with fail
     go_ret
     exact ⟨_,rfl,by rw [←HV.out];exact hn,hb⟩
   · have h0i:(0:Int)<((s.size:Nat):Int):=by omega
     have hsi:((s.size:Nat):Int)≤70368744177:=by omega
     obtain ⟨m,hm⟩:=eX (min s.size 19)
     have hmi:min ((s.size:Nat):Int) 19=((m:Nat):Int):=by omega
     have hm19:m≤19:=by omega
     have hm0:0<m:=by omega
     have hms:m≤s.size:=by omega
     have HM:=hid hm
     have HA2:=hid hall
     have HLP:=hid hlp
     have HPS:=hid hps
     have HGK:=hid hk
     clear hm hall hallP hlp hps hk
     obtain ⟨wo,rfl⟩:=eX (wr:World)
     go_wp2_with fail
     go_loopw [5,6,15] (fun sv cv iv wr=>IT' s m sv cv iv∧∃ q,wr=wo.drewN q) (fun _ _ iv _=>m - (intOf iv).toNat)
     case atStart=>exact ⟨⟨0,1,0,Nat.zero_le _,rfl,rfl,rfl,by decide,by decide,rfl,rfl⟩,0,rfl⟩
     case round =>
       obtain ⟨⟨k,a,b,hkm,rfl,rfl,rfl,ha10,hb10,HA,HB⟩,q,rfl⟩:=hrel
       rcases Nat.lt_or_ge k m with hlt | hge
       · have hki:((k:Nat):Int)<((m:Nat):Int):=by omega
         have hks:k<s.size:=by omega
         have hksi:((k:Nat):Int)<((s.size:Nat):Int):=by omega
         have HST:=hid (Gl hlt hm19 hms HA2.out HA.out HB.out)
         have hdg:=E9 hks HA2.out
         obtain ⟨d,hdd⟩:=eX (s[k].toNat - 48)
         obtain ⟨a2,ha2⟩:=eX (a*10)
         obtain ⟨b2,hb2⟩:=eX (b*10)
         obtain ⟨b3,hb3⟩:=eX (b2+d)
         have hb3':b3=b*10+s[k].toNat - 48:=by omega
         have hst:=HST.out
         have f1:IntKind.u64.wrap (((a:Nat):Int)*10)=((a2:Nat):Int):=by rw [Cs'];omega
         have f2:IntKind.u64.wrap (((b:Nat):Int)*10)=((b2:Nat):Int):=by rw [Cs'];omega
         have f3:IntKind.u8.wrap (((s[k].toNat:Nat):Int) - 48)=((d:Nat):Int):=by rw [IntKind.wrap_u8];omega
         have f4:IntKind.u64.wrap ((d:Nat):Int)=((d:Nat):Int):=by rw [Cs'];omega
         have f5:IntKind.u64.wrap (((b2:Nat):Int)+((d:Nat):Int))=((b3:Nat):Int):=by rw [Cs'];omega
         have HR:Hid (a2=10^(k+1)∧b3=valL (s.data.toList.take (k+1))∧a2≤10000000000000000000∧b3≤10000000000000000000):=by
           show _∧_
           rw [hb3',ha2]
           exact ⟨hst.1,hst.2.1,hst.2.2.1,hst.2.2.2.1⟩
         clear hst hb3 hb3' hb2 ha2 hdd hdg ha10 hb10 HA HB
         go_wp2_with fail
         go_quiet (fail)
         go_wp2_with fail
         go_roundw
         case rel=>exact ⟨⟨k+1,a2,b3,by omega,by go_num,rfl,rfl,HR.out.2.2.1,HR.out.2.2.2,HR.out.1,HR.out.2.1⟩,_,rfl⟩
         case measure=>simp [intOf];omega
       · obtain rfl:k=m:=by omega
         have hki:¬ ((k:Nat):Int)<((k:Nat):Int):=by omega
         clear hge hkm
         have ha0:0<a:=by rw [HA.out];exact Nat.pow_pos (by decide)
         have haW:a<W:=by have:=Bh;omega
         have hn2:Nt ((wo.alloc (.cells #[.int .u64 ((a:Nat):Int)] 86)).drewN q) u3 (valL P):=(hn.keep ((Below.refl _ _).alloc (nL _) _)).drewN q
         have hw2:Nt ((wo.alloc (.cells #[.int .u64 ((a:Nat):Int)] 86)).drewN q) (.slice (some ⟨wo.heap.size,0,none⟩) 1 1) a:=(CA' wo ha0 haW).drewN q
         have hla:len a=1:=Be ha0 haW
         have HLA:=hid hla
         have HM1:=hid (AP' hn2 hw2 (by have:=HLP.out;have:=HPS.out;omega) (by omega))
         have HB2:=hid (show Below wo.heap.size wo ((wo.alloc (.cells #[.int .u64 ((a:Nat):Int)] 86)).drewN q) from ((Below.refl _ _).alloc (nL _) _).trans ((Ai _ q).mono (by simp)))
         clear hla hn2 hw2 hn
         go_wp2_with fail
         refine (HM1.out).mono ?_
         rintro e w2 ⟨v2,rfl,hv2,b2⟩
         have HN3:=hid (Dd' (w:=w2) b (by have:=Bh;omega))
         have HB3:=hid (HB2.out.trans (b2.mono HB2.out.size))
         clear b2 HM1
         go_wp2_with fail
         refine (HN3.out).mono ?_
         rintro e w3 ⟨v3,rfl,hv3,b3⟩
         have hv2':=hv2.keep b3
         have hlb:len b≤1:=Av (by rw [Nat.pow_one];have:=Bh;omega)
         have hlm:=Ap (valL P) a
         have HA4:=hid (Ca' hv2' hv3 (by rw [HLA.out] at hlm;have:=HLP.out;have:=HPS.out;omega) (by omega))
         have HB4:=hid (chain HB3.out b3)
         clear b3 HN3 hlb hlm hv2 hv2' hv3
         go_wp2_with fail
         refine (HA4.out).mono ?_
         rintro e w4 ⟨v4,rfl,hv4,b4⟩
         have HF:=hid (And.intro hv4 (chain HB4.out b4))
         clear b4 hv4 HA4
         have hki2:((k:Nat):Int)≤((s.size:Nat):Int):=by omega
         have HBO:=hid hb
         clear hb
         go_wp2_with fail
         go_roundg (s.size - k)
         case measure=>have:=HGK.out;omega
         case rel =>
           refine ⟨s.extract k s.size,rfl,?_,P++s.data.toList.take k,?_,?_,chain HBO.out HF.out.2⟩
           · rw [←AC',Lib.extract_to_end,List.length_drop,AC']
           · show _=_
             rw [Lib.extract_to_end,List.append_assoc,List.take_append_drop]
             exact HE.out
           · have e:valL (P++s.data.toList.take k)=valL P*a+b:=by
               rw [FC,List.length_take,AC',show min k s.size=k by omega,←HA.out,←HB.out]
             rw [e]
             exact HF.out.1
end Go.Proofs.YtbigkkjnhcpgiaaGreatDoor
