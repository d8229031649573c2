/-
  Contracts of the functions that the law calls, for every input (Txf Txg Txh Txi Txj Txk LawA NumM BoxA BoxB BoxC).
-/
import Derived.Test.YtcicfnlljdnagaaGreatDoorY00
import Derived.Test.YtcicfnlljdnagaaGreatDoorY17
import Derived.Lib.Repeat
import Derived.Lib.SmallJoins
import Derived.Lib.IndexBytes
import Derived.Deep.QuietTactic
import Derived.BigQuiet
import Derived.Test.YtcicfnlljdnagaaGreatDoorY12
import Derived.Test.YtcicfnlljdnagaaGreatDoorY08
import Derived.Test.YtcicfnlljdnagaaGreatDoorY11
import Derived.Test.YtcicfnlljdnagaaGreatDoorY10
import Derived.Test.YtcicfnlljdnagaaGreatDoorY09
set_option linter.all false
set_option maxRecDepth 100000
set_option maxHeartbeats 40000000
namespace Go.Proofs.YtcicfnlljdnagaaGreatDoor
open Lib (hid)
open Go.RowKit
open Vx
def AR (l:List UInt8) (p:Nat):List UInt8 :=
  if p=0 then l else
    (List.replicate (p+1 - l.length) 48++l).take ((List.replicate (p+1 - l.length) 48++l).length - p)++[46] ++
      (List.replicate (p+1 - l.length) 48++l).drop ((List.replicate (p+1 - l.length) 48++l).length - p)
theorem AJ' (a b:ByteArray):(a++b).data.toList=a.data.toList++b.data.toList:=by
 rw [ByteArray.data_append,Array.toList_append]
theorem Cu {b:ByteArray} {l:List UInt8} (h:b.data.toList=l):b=⟨l.toArray⟩:=by
 subst h
 rfl
theorem Db' {s:ByteArray} {l:List UInt8} {p:Nat} (hs:s.data.toList=List.replicate (p+1 - l.length) 48++l) (h0:0<p) (_h:p<s.size) :
   (⟨(s.extract 0 (s.size - p)++⟨#[46]⟩++s.extract (s.size - p) s.size).data⟩:ByteArray)=⟨(AR l p).toArray⟩:=by
 apply Cu
 have hsz:s.size=(List.replicate (p+1 - l.length) 48++l).length:=by rw [←hs];exact (Array.length_toList (xs:=s.data)).symm
 rw [AJ',AJ',Lib.extract_data,Lib.extract_to_end,hs,hsz]
 unfold AR
 rw [if_neg (by omega),Nat.sub_zero,List.drop_zero]
theorem Fb' {s:ByteArray} {l:List UInt8} {p:Nat} (hs:s=⟨l.toArray⟩) (h0:0<p) (h:p<l.length) :
   (⟨(s.extract 0 (s.size - p)++⟨#[46]⟩++s.extract (s.size - p) s.size).data⟩:ByteArray)=⟨(AR l p).toArray⟩:=by
 have hr:List.replicate (p+1 - l.length) (48:UInt8)++l=l:=by rw [show p+1 - l.length=0 by omega];rfl
 refine Db' (by rw [hr,hs]) h0 ?_
 rw [hs]
 exact h
theorem EL {w:World} {l:List UInt8}:Calls Tryz.prog 72 #[.string ⟨l.toArray⟩,.int .i64 0] w (Bw w l):=by
 go_enter Tryz.func72,Tryz.ntmps72
 go_wp2_with fail
 go_ret
 exact ⟨rfl,Below.refl _ _⟩
theorem Gm {w:World} {l:List UInt8} {p:Nat} (h0:0<p) (hp:p≤70368744177664) (hl:l.length≤70368744177664) (h:p<l.length) :
   Calls Tryz.prog 72 #[.string ⟨l.toArray⟩,.int .i64 ((p:Nat):Int)] w (Bw w (AR l p)):=by
 have t0:(((p:Nat):Int)==0)=false:=by rw [beq_eq_false_iff_ne];omega
 obtain ⟨s,hs⟩:=eX (⟨l.toArray⟩:ByteArray)
 have hsz:s.size=l.length:=by rw [hs];rfl
 rw [←hs]
 have HS:=hid hs
 have h1:((p:Nat):Int)<((s.size:Nat):Int):=by omega
 have h2:((s.size:Nat):Int)≤70368744177664:=by omega
 have h3:¬ (0:Int)<((p:Nat):Int)+1 - ((s.size:Nat):Int):=by omega
 have HZ:=hid hsz
 clear hs hsz h hl
 go_enter Tryz.func72,Tryz.ntmps72
 go_wp2_with fail
 go_quiet (fail)
 go_wp2_with fail
 go_ret
 refine ⟨?_,As w _⟩
 have e:=Fb' (s:=s) (l:=l) (p:=p) (by rw [HS.out]) h0 (by rw [←HZ.out];omega)
 rw [←e]
 rfl
theorem Gm' {w:World} {l:List UInt8} {p:Nat} (h0:0<p) (hp:p≤70368744177664) (h:l.length≤p) :
   Calls Tryz.prog 72 #[.string ⟨l.toArray⟩,.int .i64 ((p:Nat):Int)] w (Bw w (AR l p)):=by
 have t0:(((p:Nat):Int)==0)=false:=by rw [beq_eq_false_iff_ne];omega
 obtain ⟨s,hs⟩:=eX (⟨l.toArray⟩:ByteArray)
 have hsz:s.size=l.length:=by rw [hs];rfl
 rw [←hs]
 have HS:=hid hs
 obtain ⟨c,hc⟩:=eX (p+1 - l.length)
 have h1:((s.size:Nat):Int)≤((p:Nat):Int):=by omega
 have h3:(0:Int)<((p:Nat):Int)+1 - ((s.size:Nat):Int):=by omega
 have hci:((p:Nat):Int)+1 - ((s.size:Nat):Int)=((c:Nat):Int):=by omega
 have hc0:(0:Int)<((c:Nat):Int):=by omega
 have HX:=hid (Tryz.strings_Repeat ⟨#[48]⟩ c w (by omega) (by show 1*c≤_;omega))
 obtain ⟨z,hz⟩:=eX (⟨(Lib.repeatL (⟨#[48]⟩:ByteArray).data.toList c).toArray⟩:ByteArray)
 rw [←hz] at HX
 have hzl:z.data.toList=List.replicate c 48:=by
   rw [hz]
   show Lib.repeatL [48] c=_
   have:=Lib.repeatL_replicate 48 1 c
   rw [Nat.mul_one] at this
   exact this
 have hz2:z.size=c:=by
   show z.data.size=c
   rw [←Array.length_toList,hzl,List.length_replicate]
 obtain ⟨s2,hs2⟩:=eX (z++s:ByteArray)
 have hs2l:s2.data.toList=List.replicate c 48++l:=by rw [hs2,AJ',hzl,hs]
 have hs2z:s2.size=p+1:=by
   show s2.data.size=_
   rw [←Array.length_toList,hs2l,List.length_append,List.length_replicate]
   omega
 have HL:=hid hs2l;have HZ:=hid hs2z;have HC:=hid hc
 have HS2:=hid hs2
 have g1:((p:Nat):Int)<((s2.size:Nat):Int):=by omega
 have g3:((z.size:Nat):Int)≤70368744177665:=by omega
 have g4:((s.size:Nat):Int)≤70368744177664:=by omega
 have g2:((s2.size:Nat):Int)≤70368744177665:=by omega
 clear hs hsz h hz hzl hz2 hs2 hs2l hs2z hc
 go_enter Tryz.func72,Tryz.ntmps72
 go_wp2_with fail
 refine (HX.out).mono ?_
 rintro e w1 ⟨rfl,b1⟩
 clear hci
 go_upto_region 6 with fail
 rw [←HS2.out]
 go_wp2_with fail
 go_quiet (fail)
 go_wp2_with fail
 go_ret
 refine ⟨?_,Ae' b1 (As w1 _)⟩
 have e:=Db' (s:=s2) (l:=l) (p:=p) (by rw [HL.out,HC.out]) h0 (by rw [HZ.out];omega)
 rw [←e]
 rfl
theorem Ds' {w:World} {l:List UInt8} {p:Nat} (hp:p≤70368744177664) (hl:l.length≤70368744177664) :
   Calls Tryz.prog 72 #[.string ⟨l.toArray⟩,.int .i64 ((p:Nat):Int)] w (Bw w (AR l p)):=by
 rcases Nat.eq_zero_or_pos p with h0 | h0
 · subst h0
   have:AR l 0=l:=by unfold AR;rw [if_pos rfl]
   rw [this]
   exact EL
 · rcases Nat.lt_or_ge p l.length with h | h
   · exact Gm h0 hp hl h
   · exact Gm' h0 hp h
def FJ (p:Nat):Nat→Nat→Nat
  | 0,_=>0
  | k+1,n=>if n%p=0∧0<n then FJ p k (n / p)+1 else 0
def vp (p n:Nat):Nat:=FJ p n n
theorem Hx {p b:Nat} (hp:2≤p) (hb:b%p≠0):∀ (j k:Nat),k≤j→FJ p j (b*p^k)=k:=by
 have hb0:0<b:=by
   rcases Nat.eq_zero_or_pos b with h | h
   · subst h;simp at hb
   · exact h
 intro j
 induction j with
 | zero =>
   intro k hk
   obtain rfl:k=0:=by omega
   rfl
 | succ j ih =>
   intro k hk
   unfold FJ
   match k,hk with
   | 0,_=>rw [Nat.pow_zero,Nat.mul_one,if_neg (fun h=>hb h.1)]
   | k+1,hk =>
     have e:b*p^(k+1)=b*p^k*p:=by rw [Nat.pow_succ,Nat.mul_assoc]
     rw [e,if_pos ⟨Nat.mul_mod_left _ _,Nat.mul_pos (Nat.mul_pos hb0 (Nat.pow_pos (by omega))) (by omega)⟩,Nat.mul_div_cancel _ (by omega),ih k (by omega)]
theorem Hm {p b k:Nat} (hp:2≤p) (hb:b%p≠0):vp p (b*p^k)=k:=by
 have hb0:0<b:=by
   rcases Nat.eq_zero_or_pos b with h | h
   · subst h;simp at hb
   · exact h
 refine Hx hp hb _ _ ?_
 have h1:k<2^k:=Nat.lt_two_pow_self
 have h2:2^k≤p^k:=Nat.pow_le_pow_left hp k
 have h3:p^k≤b*p^k:=Nat.le_mul_of_pos_left _ hb0
 omega
def A8' (q:Rat):List UInt8 :=
  (if q.num<0 then [45] else []) ++
    if q.den=2^vp 2 q.den*5^vp 5 q.den then
      AR (AR' (q.num.natAbs*5^(max (vp 2 q.den) (vp 5 q.den) - vp 5 q.den)*2^(max (vp 2 q.den) (vp 5 q.den) - vp 2 q.den))) (max (vp 2 q.den) (vp 5 q.den))
    else AR' q.num.natAbs++[47]++AR' q.den
theorem EL' (t:Nat):2^t%5=1∨2^t%5=2∨2^t%5=3∨2^t%5=4:=by
 induction t with
 | zero=>left;rfl
 | succ t ih=>rw [Nat.pow_succ];omega
theorem Cj {d b t r f:Nat} (h1:d=b*2^t) (h2:b%2=1) (h3:b=r*5^f) (h4:r%5≠0) :
   vp 2 d=t∧vp 5 d=f∧(d=2^t*5^f↔r=1):=by
 refine ⟨by rw [h1];exact Hm (by omega) (by omega),?_,?_⟩
 · have e:d=r*2^t*5^f:=by rw [h1,h3,Nat.mul_assoc,Nat.mul_comm (5^f),←Nat.mul_assoc]
   rw [e]
   refine Hm (by omega) ?_
   have h5:=EL' t
   have h6:r%5=1∨r%5=2∨r%5=3∨r%5=4:=by omega
   rw [Nat.mul_mod]
   rcases h5 with h | h | h | h <;> rcases h6 with h' | h' | h' | h' <;> rw [h,h'] <;> decide
 · rw [h1,h3]
   have hp:0<5^f*2^t:=Nat.mul_pos (Nat.pow_pos (by omega)) (Nat.pow_pos (by omega))
   constructor
   · intro e
     rw [Nat.mul_comm (2^t),Nat.mul_assoc] at e
     have:r*(5^f*2^t)=1*(5^f*2^t):=by rw [Nat.one_mul];exact e
     exact Nat.eq_of_mul_eq_mul_right hp this
   · intro e
     rw [e,Nat.one_mul,Nat.mul_comm]
theorem Ar' {g:Nat} {w w':World} (h:TabAt g Lib.deBruijn64tab w) (hb:Below w.heap.size w w'):TabAt g Lib.deBruijn64tab w':=by
 intro j hj
 have h1:=h j hj
 exact (hb.cell (p:=⟨g,j,none⟩) (bL w _ h1)).trans h1
theorem Cp' (n:Nat):(AR' n).length≤20*len n+1:=by
 unfold AR'
 split
 · simp
 · unfold Bt
   have:=(List.dropWhile_suffix (l:=digs (20*len n) n) (· == 48)).length_le
   rw [Bn] at this
   omega
theorem GX (w:World) {x:Nat} (h0:0<x) (hx:x<W):Nt (w.alloc (.cells #[.int .u64 (x:Nat)] 113)) (.slice (some ⟨w.heap.size,0,none⟩) 1 1) x:=by
 refine ⟨_,1,by rw [Bu' h0 hx],by rw [Bu' h0 hx];omega,by omega,fun e=>by omega,fun _=>⟨w.heap.size,0,rfl,by simp,fun j hj=>?_⟩⟩
 rw [Bu' h0 hx] at hj
 obtain rfl:j=0:=by omega
 rw [cR _ _ _ _ _ _ (hA_ w _)]
 simp [word,Nat.mod_eq_of_lt hx]
theorem Ag'.alloc {wB wS w:World} {G:Nat} (h:Ag' wB G wS w) (hG:G≤wB.heap.size) (o:Obj):Ag' wB G wS (w.alloc o):=h.call hG ((Below.refl _ _).alloc (nL _) _)
theorem Bl' {b p n:Nat} (hb:0<b) (hp:2≤p) (h:len (b*p^n)≤536870912):n≤34359738368:=by
 have:=Dl' (n:=n) hb hp
 omega
theorem GX' (w:World):Nt (w.alloc (.cells #[.int .u64 5] 113)) (.slice (some ⟨w.heap.size,0,none⟩) 1 1) 5:=GX w (x:=5) (by decide) (by rw [Bu];decide)
theorem El (w:World):Nt (w.alloc (.cells #[.int .u64 5] 113)).drew (.slice (some ⟨w.heap.size,0,none⟩) 1 1) 5:=(GX' w).keep ⟨rfl,rfl,rfl,nL _,fun _ _=>rfl⟩
theorem Ag'.plain {wB w:World} {G:Nat} (h:Below G wB w):Ag' wB G w w:=⟨Aq h,h,Aj'.refl w⟩
theorem Ag'.alloc_drew {wB wS w:World} {G:Nat} (h:Ag' wB G wS w) (hG:G≤wB.heap.size) (o:Obj):Ag' wB G wS (w.alloc o).drew :=
 (h.alloc hG o).call hG ⟨rfl,rfl,rfl,nL _,fun _ _=>rfl⟩
theorem CR:len 5=1:=by decide +kernel
theorem El' {l:List UInt8} {p:Nat} (hl:l.length≤1099511627776) (hp:p≤34359738368):(AR l p).length≤70368744177664:=by
 unfold AR
 split
 · omega
 · simp only [List.length_append,List.length_take,List.length_drop,List.length_replicate,List.length_cons,List.length_nil]
   omega
theorem DM' {a i j:Nat} (ha:len a≤536870912) (hi:i≤34359738368) (hj:j≤34359738368):len (5^i)≤34359738369∧len (a*5^i)≤34896609281∧len (a*5^i*2^j)≤35433480194:=by
 have h1:=CM 5 i
 have h5:len 5=1:=by decide +kernel
 rw [h5] at h1
 have h2:=Aw a (5^i)
 have h3:=Aw (a*5^i) (2^j)
 have h4:=E1' j
 omega
theorem Dc {w:World} {vx:Value} {x:Rat} (hx:Ad' w vx x) (hs:Ab' x≤536870912) (hT:TabAt 0 Lib.deBruijn64tab w) (hn:x.num<0)
   (hd:¬ x.den=2^vp 2 x.den*5^vp 5 x.den):Calls Tryz.prog 37 #[vx] w (Bw w (A8' x)):=by
 obtain ⟨A1,c1,A2,c2,rfl,hx1,hx2⟩:=hx.opened
 have hng:decide (x.num<0)=true:=dT_ hn
 have HTX:Hid (A8' x=[45]++(AR' x.num.natAbs++[47]++AR' x.den)):=by
   show _=_
   unfold A8'
   rw [if_pos hn,if_neg hd]
 have HDD:=hid hd
 have l1:=Ah x
 have l2:=Ah' x
 have HL:=hid (show len x.num.natAbs≤536870912∧len x.den≤536870912 by omega)
 have hd0:0<x.den:=x.den_pos
 rw [hng] at hx ⊢
 obtain ⟨wB,hwB⟩:=eX (w.alloc (.cells #[.bool true,.slice A1 (len x.num.natAbs) c1,.slice A2 (len (below x.den)) c2] 32))
 have b0:Below w.heap.size w wB:=by rw [hwB];exact (Below.refl _ _).alloc (nL _) _
 have gA:wB.heap[w.heap.size]?=some (.cells #[.bool true,.slice A1 (len x.num.natAbs) c1,.slice A2 (len (below x.den)) c2] 32 (0,0)):=by rw [hwB];exact hA_ w _
 obtain ⟨k0,k1,k2⟩:=Ae gA
 have HSZ:Hid (wB.heap.size=w.heap.size+1):=by show _=_;rw [hwB];simp
 have hxB:=hx.keep b0
 have hx1B:=hx1.keep b0
 have HTB:=hid (Ar' hT b0)
 have HB0:=hid b0
 have HC:=hid (Az hxB)
 have hlt1:w.heap.size<w.heap.size+1:=by omega
 clear hng hn hd hs l1 l2 gA b0 hT hx hxB hx1 hx2
 go_enter Tryz.func37,Tryz.ntmps37
 go_wp2_with fail
 rw [←hwB]
 clear hwB
 refine (HC.out).mono ?_
 rintro e w1 ⟨vb,rfl,hvb,b1⟩
 have hT1:=Ar' HTB.out b1
 have hx1':=hx1B.keep b1
 have HB1:=hid b1
 have HC2:=hid (CQ hvb (nT HL.out.2 (by decide)) hd0 hT1)
 have hvb1:=hvb
 clear b1 HC hT1 hx1B hvb
 go_wp2_with fail
 refine (HC2.out).mono ?_
 rintro e w2 ⟨t,b,rfl,het,hodd,rfl⟩
 have hb0:0<b:=by omega
 have ht36:t≤34359738368:=Bl' (p:=2) hb0 (by omega) (by rw [←het];exact HL.out.2)
 have hti:((t:Nat):Int)≤34359738368:=by omega
 have hshr:x.den / 2^t=b:=by rw [het,Nat.mul_div_cancel _ (Nat.two_pow_pos t)]
 have HC3:=hid (CF' (n:=t) hvb1 (nT HL.out.2 (by decide)) (nT ht36 (by decide)))
 rw [hshr] at HC3
 have HET:=hid het;have HODD:=hid hodd
 clear HC2 hshr het hodd
 go_wp2_with fail
 refine (HC3.out).mono ?_
 rintro e w3 ⟨v3,rfl,hv3,b3⟩
 have hlb:len b≤536870912:=nT (Al' (by rw [HET.out];exact Nat.le_mul_of_pos_right _ (Nat.two_pow_pos t))) HL.out.2
 have HC4:=hid (Cx hv3 (nT hlb (by decide)) hb0)
 have hx3:=hx1'.keep b3
 have hvb3:=hvb1.keep b3
 have HB3:=hid (HB1.out.trans (b3.mono HB1.out.size))
 have HLB:=hid hlb
 clear b3 HC3 hlb hx1' hvb1 HB1
 go_wp2_with fail
 refine (HC4.out).mono ?_
 rintro e w4 ⟨r,f,v4,rfl,hv4,hef,hr5,b4⟩
 have hr0:0<r:=by
   rcases Nat.eq_zero_or_pos r with h | h
   · subst h;simp at hr5
   · exact h
 have hf36:f≤34359738368:=Bl' (p:=5) hr0 (by omega) (by rw [←hef];exact HLB.out)
 have hfi:((f:Nat):Int)≤34359738368:=by omega
 have HTP:=hid (Cj HET.out HODD.out hef hr5)
 have HIS:=hid (A0' hv4)
 have hone:decide (r=1)=false:=by
   obtain ⟨e1,e2,e3⟩:=HTP.out
   have:=HDD.out
   rw [e1,e2,e3] at this
   exact dF_ this
 rw [hone] at HIS
 have hx4:=hx3.keep b4
 have hvb4:=hvb3.keep b4
 have HB4:=hid (HB3.out.trans (b4.mono HB3.out.size))
 clear hone b4 hef hr5 hx3 hvb3 HB3 HC4 hv3 hv4
 have hc4:=Aq (show Below (w.heap.size+1) wB w4 from by rw [←HSZ.out];exact HB4.out)
 go_wp2_with fail
 refine (HIS.out).mono ?_
 rintro e w5 ⟨rfl,rfl⟩
 have HD1:=hid (BE' hx4 (nT HL.out.1 (by decide)))
 have z1:=Cp' x.num.natAbs
 have z2:=Cp' x.den
 have HZ:=hid (And.intro z1 z2)
 clear z1 z2
 go_wp2_with fail
 refine (HD1.out).mono ?_
 rintro e w6 ⟨rfl,b6⟩
 have hvb6:=hvb4.keep b6
 have HD2:=hid (BE' hvb6 (nT HL.out.2 (by decide)))
 have HB6:=hid (HB4.out.trans (b6.mono HB4.out.size))
 obtain ⟨s1,hs1⟩:=eX (⟨(AR' x.num.natAbs).toArray⟩:ByteArray)
 rw [←hs1]
 have g1:((s1.size:Nat):Int)≤10737418241:=by
   have:s1.size=(AR' x.num.natAbs).length:=by rw [hs1];rfl
   have:=HZ.out.1;have:=HL.out.1
   omega
 have HS1:=hid hs1
 clear hs1 b6 HD1
 go_wp2_with fail
 refine (HD2.out).mono ?_
 rintro e w7 ⟨rfl,b7⟩
 obtain ⟨s2,hs2⟩:=eX (⟨(AR' x.den).toArray⟩:ByteArray)
 rw [←hs2]
 have g2:((s2.size:Nat):Int)≤10737418241:=by
   have:s2.size=(AR' x.den).length:=by rw [hs2];rfl
   have:=HZ.out.2;have:=HL.out.2
   omega
 have HS2:=hid hs2
 have HF:=hid (HB0.out.trans ((HB6.out.trans (b7.mono HB6.out.size)).mono HB0.out.size))
 clear hs2 b7 HD2
 go_wp2_with fail
 go_ret
 refine ⟨?_,HF.out⟩
 rw [HTX.out]
 have e:=Cu (b:=⟨#[45]⟩++s1++⟨#[47]⟩++s2) (l:=[45]++(AR' x.num.natAbs++[47]++AR' x.den)) (by rw [AJ',AJ',AJ',HS1.out,HS2.out];simp)
 rw [←e]
 rfl
theorem C0' {w:World} {vx:Value} {x:Rat} (hx:Ad' w vx x) (hs:Ab' x≤536870912) (hT:TabAt 0 Lib.deBruijn64tab w) (hn:x.num<0)
   (hd:x.den=2^vp 2 x.den*5^vp 5 x.den):Calls Tryz.prog 37 #[vx] w (Bw w (A8' x)):=by
 obtain ⟨A1,c1,A2,c2,rfl,hx1,hx2⟩:=hx.opened
 have hng:decide (x.num<0)=true:=dT_ hn
 have HTX:Hid (A8' x=[45]++AR (AR' (x.num.natAbs*5^(max (vp 2 x.den) (vp 5 x.den) - vp 5 x.den)*2^(max (vp 2 x.den) (vp 5 x.den) - vp 2 x.den))) (max (vp 2 x.den) (vp 5 x.den))):=by
   show _=_
   unfold A8'
   rw [if_pos hn,if_pos hd]
 have HDD:=hid hd
 have l1:=Ah x
 have l2:=Ah' x
 have HL:=hid (show len x.num.natAbs≤536870912∧len x.den≤536870912 by omega)
 have hd0:0<x.den:=x.den_pos
 rw [hng] at hx ⊢
 obtain ⟨wB,hwB⟩:=eX (w.alloc (.cells #[.bool true,.slice A1 (len x.num.natAbs) c1,.slice A2 (len (below x.den)) c2] 32))
 have b0:Below w.heap.size w wB:=by rw [hwB];exact (Below.refl _ _).alloc (nL _) _
 have gA:wB.heap[w.heap.size]?=some (.cells #[.bool true,.slice A1 (len x.num.natAbs) c1,.slice A2 (len (below x.den)) c2] 32 (0,0)):=by rw [hwB];exact hA_ w _
 obtain ⟨k0,k1,k2⟩:=Ae gA
 have HSZ:Hid (wB.heap.size=w.heap.size+1):=by show _=_;rw [hwB];simp
 have hxB:=hx.keep b0
 have hx1B:=hx1.keep b0
 have HTB:=hid (Ar' hT b0)
 have HB0:=hid b0
 have HC:=hid (Az hxB)
 have hlt1:w.heap.size<w.heap.size+1:=by omega
 clear hng hn hd hs l1 l2 gA b0 hT hx hxB hx1 hx2
 go_enter Tryz.func37,Tryz.ntmps37
 go_wp2_with fail
 rw [←hwB]
 clear hwB
 refine (HC.out).mono ?_
 rintro e w1 ⟨vb,rfl,hvb,b1⟩
 have hT1:=Ar' HTB.out b1
 have hx1':=hx1B.keep b1
 have HB1:=hid b1
 have HC2:=hid (CQ hvb (nT HL.out.2 (by decide)) hd0 hT1)
 have hvb1:=hvb
 clear b1 HC hT1 hx1B hvb
 go_wp2_with fail
 refine (HC2.out).mono ?_
 rintro e w2 ⟨t,b,rfl,het,hodd,rfl⟩
 have hb0:0<b:=by omega
 have ht36:t≤34359738368:=Bl' (p:=2) hb0 (by omega) (by rw [←het];exact HL.out.2)
 have hti:((t:Nat):Int)≤34359738368:=by omega
 have hshr:x.den / 2^t=b:=by rw [het,Nat.mul_div_cancel _ (Nat.two_pow_pos t)]
 have HC3:=hid (CF' (n:=t) hvb1 (nT HL.out.2 (by decide)) (nT ht36 (by decide)))
 rw [hshr] at HC3
 have HET:=hid het;have HODD:=hid hodd
 clear HC2 hshr het hodd
 go_wp2_with fail
 refine (HC3.out).mono ?_
 rintro e w3 ⟨v3,rfl,hv3,b3⟩
 have hlb:len b≤536870912:=nT (Al' (by rw [HET.out];exact Nat.le_mul_of_pos_right _ (Nat.two_pow_pos t))) HL.out.2
 have HC4:=hid (Cx hv3 (nT hlb (by decide)) hb0)
 have hx3:=hx1'.keep b3
 have hvb3:=hvb1.keep b3
 have HB3:=hid (HB1.out.trans (b3.mono HB1.out.size))
 have HLB:=hid hlb
 clear b3 HC3 hlb hx1' hvb1 HB1
 go_wp2_with fail
 refine (HC4.out).mono ?_
 rintro e w4 ⟨r,f,v4,rfl,hv4,hef,hr5,b4⟩
 have hr0:0<r:=by
   rcases Nat.eq_zero_or_pos r with h | h
   · subst h;simp at hr5
   · exact h
 have hf36:f≤34359738368:=Bl' (p:=5) hr0 (by omega) (by rw [←hef];exact HLB.out)
 have hfi:((f:Nat):Int)≤34359738368:=by omega
 have HTP:=hid (Cj HET.out HODD.out hef hr5)
 have HIS:=hid (A0' hv4)
 have hone:decide (r=1)=true:=by
   obtain ⟨e1,e2,e3⟩:=HTP.out
   have:=HDD.out
   rw [e1,e2,e3] at this
   exact dT_ this
 rw [hone] at HIS
 have hx4:=hx3.keep b4
 have hvb4:=hvb3.keep b4
 have HB4:=hid (HB3.out.trans (b4.mono HB3.out.size))
 clear hone b4 hef hr5 hx3 hvb3 HB3 HC4 hv3 hv4
 have hc4:=Aq (show Below (w.heap.size+1) wB w4 from by rw [←HSZ.out];exact HB4.out)
 go_wp2_with fail
 refine (HIS.out).mono ?_
 rintro e w5 ⟨rfl,rfl⟩
 obtain ⟨m,hmd⟩:=eX (max t f)
 have hm:max ((t:Nat):Int) ((f:Nat):Int)=((m:Nat):Int):=by omega
 have HMD:=hid hmd
 have hmt:t≤m:=by omega
 have hmf:f≤m:=by omega
 have hm36:m≤34359738368:=by omega
 have hmi:((m:Nat):Int)≤34359738368:=by omega
 have q1:IntKind.i64.wrap (((m:Nat):Int) - ((f:Nat):Int))=((m - f:Nat):Int):=by rw [IntKind.wrap_i64];omega
 have q2:IntKind.i64.wrap (((m:Nat):Int) - ((t:Nat):Int))=((m - t:Nat):Int):=by rw [IntKind.wrap_i64];omega
 have q3:((m - t:Nat):Int)≤34359738368:=by omega
 have q4:IntKind.u64.wrap ((m - t:Nat):Int)=((m - t:Nat):Int):=BZ' (by omega)
 have Q4:=hid q4
 have HSC:=hid (DM' (a:=x.num.natAbs) (i:=m - f) (j:=m - t) HL.out.1 (by omega) (by omega))
 have hbG:Below (w.heap.size+1) wB w4:=by rw [←HSZ.out];exact HB4.out
 have H4:=Ag'.begin (wS:=w4) hbG rfl
 have HG:=Nat.le_of_eq HSZ.out.symm
 have H4a:Ag' wB (w.heap.size+1) w4 (w4.alloc (.cells #[.int .u64 5] 113)).drew:=(Ag'.plain hbG).alloc_drew HG _
 have H5n:=El w4
 have H4i:(∀ b o,b<w.heap.size+1→w4.drew.cell? ⟨b,o,none⟩=wB.cell? ⟨b,o,none⟩)∧Below (w.heap.size+1) wB w4.drew∧Aj' w4 w4.drew:=H4
 have H4j:(∀ b o,b<w.heap.size+1→(w4.alloc (.cells #[.int .u64 5] 113)).drew.cell? ⟨b,o,none⟩=wB.cell? ⟨b,o,none⟩)∧Below (w.heap.size+1) wB (w4.alloc (.cells #[.int .u64 5] 113)).drew∧Aj' w4 (w4.alloc (.cells #[.int .u64 5] 113)).drew:=H4a
 clear hmd hmt hmf hbG
 go_upto_region 10 with fail
 try rw [hm]
 clear hm
 go_region_held3 (fun w'=>(∀ b o,b<w.heap.size+1→w'.cell? ⟨b,o,none⟩=wB.cell? ⟨b,o,none⟩)∧Below (w.heap.size+1) wB w'∧Aj' w4 w')
   (first | with_reducible exact H4i | with_reducible exact H4j | exact hk7 | exact hk6 | exact hk5)
   (first | (go_at_call 70;refine (Fk (w:=(w4.alloc (.cells #[.int .u64 5] 113)).drew) (a:=5) (n:=m - f) H5n (by omega) (by rw [CR];omega) (by rw [CR];decide)).mono ?_;rintro e w5 ⟨v5,rfl,hv5,hbl5⟩;have hk5:=Ag'.call H4a HG hbl5) | (go_at_call 47;refine (AL' (hk5.2.2 _ _ hx4) hv5 (nT HL.out.1 (by decide)) (nT HSC.out.1 (by decide))).mono ?_;rintro e w6 ⟨v6,rfl,hv6,hbl6⟩;have hk6:=Ag'.call hk5 HG hbl6) | (go_at_call 71;(try rw [Q4.out]);refine (Di' (n:=m - t) hv6 (nT HSC.out.2.1 (by decide)) (by omega)).mono ?_;rintro e w7 ⟨v7,rfl,hv7,hbl7⟩;have hk7:=Ag'.call hk6 HG hbl7))
 rename_i hHl
 clear hHl q1 q2 q4
 have HD1:=hid (BE' hv7 (nT HSC.out.2.2 (by decide)))
 have HZ:=hid (Cp' (x.num.natAbs*5^(m - f)*2^(m - t)))
 have HB7:=hid (HB0.out.trans (hk7.2.1.mono (Nat.le_succ _)))
 clear hk5 hk6 hbl5 hbl6 hbl7 hv5 hv6 hv7 H4 hc4
 go_wp2_with fail
 refine (HD1.out).mono ?_
 rintro e w8 ⟨rfl,b8⟩
 have HPT:=hid (Ds' (w:=w8) (l:=AR' (x.num.natAbs*5^(m - f)*2^(m - t))) (p:=m) (by omega) (by have:=HZ.out;have:=HSC.out.2.2;omega))
 have HZ2:=hid (El' (l:=AR' (x.num.natAbs*5^(m - f)*2^(m - t))) (p:=m) (by have:=HZ.out;have:=HSC.out.2.2;omega) hm36)
 have HB8:=hid (Ae' HB7.out b8)
 clear b8 HD1
 go_wp2_with fail
 refine (HPT.out).mono ?_
 rintro e w9 ⟨rfl,b9⟩
 obtain ⟨s1,hs1⟩:=eX (⟨(AR (AR' (x.num.natAbs*5^(m - f)*2^(m - t))) m).toArray⟩:ByteArray)
 rw [←hs1]
 have g1:((s1.size:Nat):Int)≤70368744177664:=by
   have:s1.size=(AR (AR' (x.num.natAbs*5^(m - f)*2^(m - t))) m).length:=by rw [hs1];rfl
   have:=HZ2.out
   omega
 have HS1:=hid hs1
 have HF:=hid (Ae' HB8.out b9)
 clear hs1 b9 HPT
 go_wp2_with fail
 go_ret
 refine ⟨?_,HF.out⟩
 rw [HTX.out]
 have e:=Cu (b:=⟨#[45]⟩++s1) (l:=[45]++AR (AR' (x.num.natAbs*5^(m - f)*2^(m - t))) m) (by rw [AJ',HS1.out])
 obtain ⟨e1,e2,e3⟩:=HTP.out
 rw [e1,e2,←HMD.out,←e]
 rfl
theorem Dc' {w:World} {vx:Value} {x:Rat} (hx:Ad' w vx x) (hs:Ab' x≤536870912) (hT:TabAt 0 Lib.deBruijn64tab w) (hn:¬ x.num<0)
   (hd:¬ x.den=2^vp 2 x.den*5^vp 5 x.den):Calls Tryz.prog 37 #[vx] w (Bw w (A8' x)):=by
 obtain ⟨A1,c1,A2,c2,rfl,hx1,hx2⟩:=hx.opened
 have hng:decide (x.num<0)=false:=dF_ hn
 have HTX:Hid (A8' x=[]++(AR' x.num.natAbs++[47]++AR' x.den)):=by
   show _=_
   unfold A8'
   rw [if_neg hn,if_neg hd]
 have HDD:=hid hd
 have l1:=Ah x
 have l2:=Ah' x
 have HL:=hid (show len x.num.natAbs≤536870912∧len x.den≤536870912 by omega)
 have hd0:0<x.den:=x.den_pos
 rw [hng] at hx ⊢
 obtain ⟨wB,hwB⟩:=eX (w.alloc (.cells #[.bool false,.slice A1 (len x.num.natAbs) c1,.slice A2 (len (below x.den)) c2] 32))
 have b0:Below w.heap.size w wB:=by rw [hwB];exact (Below.refl _ _).alloc (nL _) _
 have gA:wB.heap[w.heap.size]?=some (.cells #[.bool false,.slice A1 (len x.num.natAbs) c1,.slice A2 (len (below x.den)) c2] 32 (0,0)):=by rw [hwB];exact hA_ w _
 obtain ⟨k0,k1,k2⟩:=Ae gA
 have HSZ:Hid (wB.heap.size=w.heap.size+1):=by show _=_;rw [hwB];simp
 have hxB:=hx.keep b0
 have hx1B:=hx1.keep b0
 have HTB:=hid (Ar' hT b0)
 have HB0:=hid b0
 have HC:=hid (Az hxB)
 have hlt1:w.heap.size<w.heap.size+1:=by omega
 clear hng hn hd hs l1 l2 gA b0 hT hx hxB hx1 hx2
 go_enter Tryz.func37,Tryz.ntmps37
 go_wp2_with fail
 rw [←hwB]
 clear hwB
 refine (HC.out).mono ?_
 rintro e w1 ⟨vb,rfl,hvb,b1⟩
 have hT1:=Ar' HTB.out b1
 have hx1':=hx1B.keep b1
 have HB1:=hid b1
 have HC2:=hid (CQ hvb (nT HL.out.2 (by decide)) hd0 hT1)
 have hvb1:=hvb
 clear b1 HC hT1 hx1B hvb
 go_wp2_with fail
 refine (HC2.out).mono ?_
 rintro e w2 ⟨t,b,rfl,het,hodd,rfl⟩
 have hb0:0<b:=by omega
 have ht36:t≤34359738368:=Bl' (p:=2) hb0 (by omega) (by rw [←het];exact HL.out.2)
 have hti:((t:Nat):Int)≤34359738368:=by omega
 have hshr:x.den / 2^t=b:=by rw [het,Nat.mul_div_cancel _ (Nat.two_pow_pos t)]
 have HC3:=hid (CF' (n:=t) hvb1 (nT HL.out.2 (by decide)) (nT ht36 (by decide)))
 rw [hshr] at HC3
 have HET:=hid het;have HODD:=hid hodd
 clear HC2 hshr het hodd
 go_wp2_with fail
 refine (HC3.out).mono ?_
 rintro e w3 ⟨v3,rfl,hv3,b3⟩
 have hlb:len b≤536870912:=nT (Al' (by rw [HET.out];exact Nat.le_mul_of_pos_right _ (Nat.two_pow_pos t))) HL.out.2
 have HC4:=hid (Cx hv3 (nT hlb (by decide)) hb0)
 have hx3:=hx1'.keep b3
 have hvb3:=hvb1.keep b3
 have HB3:=hid (HB1.out.trans (b3.mono HB1.out.size))
 have HLB:=hid hlb
 clear b3 HC3 hlb hx1' hvb1 HB1
 go_wp2_with fail
 refine (HC4.out).mono ?_
 rintro e w4 ⟨r,f,v4,rfl,hv4,hef,hr5,b4⟩
 have hr0:0<r:=by
   rcases Nat.eq_zero_or_pos r with h | h
   · subst h;simp at hr5
   · exact h
 have hf36:f≤34359738368:=Bl' (p:=5) hr0 (by omega) (by rw [←hef];exact HLB.out)
 have hfi:((f:Nat):Int)≤34359738368:=by omega
 have HTP:=hid (Cj HET.out HODD.out hef hr5)
 have HIS:=hid (A0' hv4)
 have hone:decide (r=1)=false:=by
   obtain ⟨e1,e2,e3⟩:=HTP.out
   have:=HDD.out
   rw [e1,e2,e3] at this
   exact dF_ this
 rw [hone] at HIS
 have hx4:=hx3.keep b4
 have hvb4:=hvb3.keep b4
 have HB4:=hid (HB3.out.trans (b4.mono HB3.out.size))
 clear hone b4 hef hr5 hx3 hvb3 HB3 HC4 hv3 hv4
 have hc4:=Aq (show Below (w.heap.size+1) wB w4 from by rw [←HSZ.out];exact HB4.out)
 go_wp2_with fail
 refine (HIS.out).mono ?_
 rintro e w5 ⟨rfl,rfl⟩
 have HD1:=hid (BE' hx4 (nT HL.out.1 (by decide)))
 have z1:=Cp' x.num.natAbs
 have z2:=Cp' x.den
 have HZ:=hid (And.intro z1 z2)
 clear z1 z2
 go_wp2_with fail
 refine (HD1.out).mono ?_
 rintro e w6 ⟨rfl,b6⟩
 have hvb6:=hvb4.keep b6
 have HD2:=hid (BE' hvb6 (nT HL.out.2 (by decide)))
 have HB6:=hid (HB4.out.trans (b6.mono HB4.out.size))
 obtain ⟨s1,hs1⟩:=eX (⟨(AR' x.num.natAbs).toArray⟩:ByteArray)
 rw [←hs1]
 have g1:((s1.size:Nat):Int)≤10737418241:=by
   have:s1.size=(AR' x.num.natAbs).length:=by rw [hs1];rfl
   have:=HZ.out.1;have:=HL.out.1
   omega
 have HS1:=hid hs1
 clear hs1 b6 HD1
 go_wp2_with fail
 refine (HD2.out).mono ?_
 rintro e w7 ⟨rfl,b7⟩
 obtain ⟨s2,hs2⟩:=eX (⟨(AR' x.den).toArray⟩:ByteArray)
 rw [←hs2]
 have g2:((s2.size:Nat):Int)≤10737418241:=by
   have:s2.size=(AR' x.den).length:=by rw [hs2];rfl
   have:=HZ.out.2;have:=HL.out.2
   omega
 have HS2:=hid hs2
 have HF:=hid (HB0.out.trans ((HB6.out.trans (b7.mono HB6.out.size)).mono HB0.out.size))
 clear hs2 b7 HD2
 go_wp2_with fail
 go_ret
 refine ⟨?_,HF.out⟩
 rw [HTX.out]
 have e:=Cu (b:=⟨#[]⟩++s1++⟨#[47]⟩++s2) (l:=[]++(AR' x.num.natAbs++[47]++AR' x.den)) (by rw [AJ',AJ',AJ',HS1.out,HS2.out];simp)
 rw [←e]
 rfl
theorem C1' {w:World} {vx:Value} {x:Rat} (hx:Ad' w vx x) (hs:Ab' x≤536870912) (hT:TabAt 0 Lib.deBruijn64tab w) (hn:¬ x.num<0)
   (hd:x.den=2^vp 2 x.den*5^vp 5 x.den):Calls Tryz.prog 37 #[vx] w (Bw w (A8' x)):=by
 obtain ⟨A1,c1,A2,c2,rfl,hx1,hx2⟩:=hx.opened
 have hng:decide (x.num<0)=false:=dF_ hn
 have HTX:Hid (A8' x=[]++AR (AR' (x.num.natAbs*5^(max (vp 2 x.den) (vp 5 x.den) - vp 5 x.den)*2^(max (vp 2 x.den) (vp 5 x.den) - vp 2 x.den))) (max (vp 2 x.den) (vp 5 x.den))):=by
   show _=_
   unfold A8'
   rw [if_neg hn,if_pos hd]
 have HDD:=hid hd
 have l1:=Ah x
 have l2:=Ah' x
 have HL:=hid (show len x.num.natAbs≤536870912∧len x.den≤536870912 by omega)
 have hd0:0<x.den:=x.den_pos
 rw [hng] at hx ⊢
 obtain ⟨wB,hwB⟩:=eX (w.alloc (.cells #[.bool false,.slice A1 (len x.num.natAbs) c1,.slice A2 (len (below x.den)) c2] 32))
 have b0:Below w.heap.size w wB:=by rw [hwB];exact (Below.refl _ _).alloc (nL _) _
 have gA:wB.heap[w.heap.size]?=some (.cells #[.bool false,.slice A1 (len x.num.natAbs) c1,.slice A2 (len (below x.den)) c2] 32 (0,0)):=by rw [hwB];exact hA_ w _
 obtain ⟨k0,k1,k2⟩:=Ae gA
 have HSZ:Hid (wB.heap.size=w.heap.size+1):=by show _=_;rw [hwB];simp
 have hxB:=hx.keep b0
 have hx1B:=hx1.keep b0
 have HTB:=hid (Ar' hT b0)
 have HB0:=hid b0
 have HC:=hid (Az hxB)
 have hlt1:w.heap.size<w.heap.size+1:=by omega
 clear hng hn hd hs l1 l2 gA b0 hT hx hxB hx1 hx2
 go_enter Tryz.func37,Tryz.ntmps37
 go_wp2_with fail
 rw [←hwB]
 clear hwB
 refine (HC.out).mono ?_
 rintro e w1 ⟨vb,rfl,hvb,b1⟩
 have hT1:=Ar' HTB.out b1
 have hx1':=hx1B.keep b1
 have HB1:=hid b1
 have HC2:=hid (CQ hvb (nT HL.out.2 (by decide)) hd0 hT1)
 have hvb1:=hvb
 clear b1 HC hT1 hx1B hvb
 go_wp2_with fail
 refine (HC2.out).mono ?_
 rintro e w2 ⟨t,b,rfl,het,hodd,rfl⟩
 have hb0:0<b:=by omega
 have ht36:t≤34359738368:=Bl' (p:=2) hb0 (by omega) (by rw [←het];exact HL.out.2)
 have hti:((t:Nat):Int)≤34359738368:=by omega
 have hshr:x.den / 2^t=b:=by rw [het,Nat.mul_div_cancel _ (Nat.two_pow_pos t)]
 have HC3:=hid (CF' (n:=t) hvb1 (nT HL.out.2 (by decide)) (nT ht36 (by decide)))
 rw [hshr] at HC3
 have HET:=hid het;have HODD:=hid hodd
 clear HC2 hshr het hodd
 go_wp2_with fail
 refine (HC3.out).mono ?_
 rintro e w3 ⟨v3,rfl,hv3,b3⟩
 have hlb:len b≤536870912:=nT (Al' (by rw [HET.out];exact Nat.le_mul_of_pos_right _ (Nat.two_pow_pos t))) HL.out.2
 have HC4:=hid (Cx hv3 (nT hlb (by decide)) hb0)
 have hx3:=hx1'.keep b3
 have hvb3:=hvb1.keep b3
 have HB3:=hid (HB1.out.trans (b3.mono HB1.out.size))
 have HLB:=hid hlb
 clear b3 HC3 hlb hx1' hvb1 HB1
 go_wp2_with fail
 refine (HC4.out).mono ?_
 rintro e w4 ⟨r,f,v4,rfl,hv4,hef,hr5,b4⟩
 have hr0:0<r:=by
   rcases Nat.eq_zero_or_pos r with h | h
   · subst h;simp at hr5
   · exact h
 have hf36:f≤34359738368:=Bl' (p:=5) hr0 (by omega) (by rw [←hef];exact HLB.out)
 have hfi:((f:Nat):Int)≤34359738368:=by omega
 have HTP:=hid (Cj HET.out HODD.out hef hr5)
 have HIS:=hid (A0' hv4)
 have hone:decide (r=1)=true:=by
   obtain ⟨e1,e2,e3⟩:=HTP.out
   have:=HDD.out
   rw [e1,e2,e3] at this
   exact dT_ this
 rw [hone] at HIS
 have hx4:=hx3.keep b4
 have hvb4:=hvb3.keep b4
 have HB4:=hid (HB3.out.trans (b4.mono HB3.out.size))
 clear hone b4 hef hr5 hx3 hvb3 HB3 HC4 hv3 hv4
 have hc4:=Aq (show Below (w.heap.size+1) wB w4 from by rw [←HSZ.out];exact HB4.out)
 go_wp2_with fail
 refine (HIS.out).mono ?_
 rintro e w5 ⟨rfl,rfl⟩
 obtain ⟨m,hmd⟩:=eX (max t f)
 have hm:max ((t:Nat):Int) ((f:Nat):Int)=((m:Nat):Int):=by omega
 have HMD:=hid hmd
 have hmt:t≤m:=by omega
 have hmf:f≤m:=by omega
 have hm36:m≤34359738368:=by omega
 have hmi:((m:Nat):Int)≤34359738368:=by omega
 have q1:IntKind.i64.wrap (((m:Nat):Int) - ((f:Nat):Int))=((m - f:Nat):Int):=by rw [IntKind.wrap_i64];omega
 have q2:IntKind.i64.wrap (((m:Nat):Int) - ((t:Nat):Int))=((m - t:Nat):Int):=by rw [IntKind.wrap_i64];omega
 have q3:((m - t:Nat):Int)≤34359738368:=by omega
 have q4:IntKind.u64.wrap ((m - t:Nat):Int)=((m - t:Nat):Int):=BZ' (by omega)
 have Q4:=hid q4
 have HSC:=hid (DM' (a:=x.num.natAbs) (i:=m - f) (j:=m - t) HL.out.1 (by omega) (by omega))
 have hbG:Below (w.heap.size+1) wB w4:=by rw [←HSZ.out];exact HB4.out
 have H4:=Ag'.begin (wS:=w4) hbG rfl
 have HG:=Nat.le_of_eq HSZ.out.symm
 have H4a:Ag' wB (w.heap.size+1) w4 (w4.alloc (.cells #[.int .u64 5] 113)).drew:=(Ag'.plain hbG).alloc_drew HG _
 have H5n:=El w4
 have H4i:(∀ b o,b<w.heap.size+1→w4.drew.cell? ⟨b,o,none⟩=wB.cell? ⟨b,o,none⟩)∧Below (w.heap.size+1) wB w4.drew∧Aj' w4 w4.drew:=H4
 have H4j:(∀ b o,b<w.heap.size+1→(w4.alloc (.cells #[.int .u64 5] 113)).drew.cell? ⟨b,o,none⟩=wB.cell? ⟨b,o,none⟩)∧Below (w.heap.size+1) wB (w4.alloc (.cells #[.int .u64 5] 113)).drew∧Aj' w4 (w4.alloc (.cells #[.int .u64 5] 113)).drew:=H4a
 clear hmd hmt hmf hbG
 go_upto_region 10 with fail
 try rw [hm]
 clear hm
 go_region_held3 (fun w'=>(∀ b o,b<w.heap.size+1→w'.cell? ⟨b,o,none⟩=wB.cell? ⟨b,o,none⟩)∧Below (w.heap.size+1) wB w'∧Aj' w4 w')
   (first | with_reducible exact H4i | with_reducible exact H4j | exact hk7 | exact hk6 | exact hk5)
   (first | (go_at_call 70;refine (Fk (w:=(w4.alloc (.cells #[.int .u64 5] 113)).drew) (a:=5) (n:=m - f) H5n (by omega) (by rw [CR];omega) (by rw [CR];decide)).mono ?_;rintro e w5 ⟨v5,rfl,hv5,hbl5⟩;have hk5:=Ag'.call H4a HG hbl5) | (go_at_call 47;refine (AL' (hk5.2.2 _ _ hx4) hv5 (nT HL.out.1 (by decide)) (nT HSC.out.1 (by decide))).mono ?_;rintro e w6 ⟨v6,rfl,hv6,hbl6⟩;have hk6:=Ag'.call hk5 HG hbl6) | (go_at_call 71;(try rw [Q4.out]);refine (Di' (n:=m - t) hv6 (nT HSC.out.2.1 (by decide)) (by omega)).mono ?_;rintro e w7 ⟨v7,rfl,hv7,hbl7⟩;have hk7:=Ag'.call hk6 HG hbl7))
 rename_i hHl
 clear hHl q1 q2 q4
 have HD1:=hid (BE' hv7 (nT HSC.out.2.2 (by decide)))
 have HZ:=hid (Cp' (x.num.natAbs*5^(m - f)*2^(m - t)))
 have HB7:=hid (HB0.out.trans (hk7.2.1.mono (Nat.le_succ _)))
 clear hk5 hk6 hbl5 hbl6 hbl7 hv5 hv6 hv7 H4 hc4
 go_wp2_with fail
 refine (HD1.out).mono ?_
 rintro e w8 ⟨rfl,b8⟩
 have HPT:=hid (Ds' (w:=w8) (l:=AR' (x.num.natAbs*5^(m - f)*2^(m - t))) (p:=m) (by omega) (by have:=HZ.out;have:=HSC.out.2.2;omega))
 have HZ2:=hid (El' (l:=AR' (x.num.natAbs*5^(m - f)*2^(m - t))) (p:=m) (by have:=HZ.out;have:=HSC.out.2.2;omega) hm36)
 have HB8:=hid (Ae' HB7.out b8)
 clear b8 HD1
 go_wp2_with fail
 refine (HPT.out).mono ?_
 rintro e w9 ⟨rfl,b9⟩
 obtain ⟨s1,hs1⟩:=eX (⟨(AR (AR' (x.num.natAbs*5^(m - f)*2^(m - t))) m).toArray⟩:ByteArray)
 rw [←hs1]
 have g1:((s1.size:Nat):Int)≤70368744177664:=by
   have:s1.size=(AR (AR' (x.num.natAbs*5^(m - f)*2^(m - t))) m).length:=by rw [hs1];rfl
   have:=HZ2.out
   omega
 have HS1:=hid hs1
 have HF:=hid (Ae' HB8.out b9)
 clear hs1 b9 HPT
 go_wp2_with fail
 go_ret
 refine ⟨?_,HF.out⟩
 rw [HTX.out]
 have e:=Cu (b:=⟨#[]⟩++s1) (l:=[]++AR (AR' (x.num.natAbs*5^(m - f)*2^(m - t))) m) (by rw [AJ',HS1.out])
 obtain ⟨e1,e2,e3⟩:=HTP.out
 rw [e1,e2,←HMD.out,←e]
 rfl
theorem Eq {w:World} {vx:Value} {x:Rat} (hx:Ad' w vx x) (hs:Ab' x≤536870912) (hT:TabAt 0 Lib.deBruijn64tab w) :
   Calls Tryz.prog 37 #[vx] w (Bw w (A8' x)):=by
 by_cases h1:x.num<0 <;> by_cases h2:x.den=2^vp 2 x.den*5^vp 5 x.den
 · exact C0' hx hs hT h1 h2
 · exact Dc hx hs hT h1 h2
 · exact C1' hx hs hT h1 h2
 · exact Dc' hx hs hT h1 h2
def digC (c:UInt8):Bool:=decide (48≤c.toNat∧c.toNat≤57)
def digB (l:List UInt8):Bool := !l.isEmpty && l.all digC
def EM (l:List UInt8):Bool:=digB l && (l.headD 0 != 48 || l==[48])
def GY (l:List UInt8):Nat:=l.foldl (fun v c=>v*10+(c.toNat - 48)) 0
def Ig' (l:List UInt8):Option Rat :=
  if (Lib.cut (Lib.trimPrefix l [45]) [47]).2.2=true then
    if EM (Lib.cut (Lib.trimPrefix l [45]) [47]).1=true∧EM (Lib.cut (Lib.trimPrefix l [45]) [47]).2.1=true∧(Lib.cut (Lib.trimPrefix l [45]) [47]).2.1≠[48] then
      some (mkRat (sgn (Lib.hasPrefix l [45]) (GY (Lib.cut (Lib.trimPrefix l [45]) [47]).1)) (GY (Lib.cut (Lib.trimPrefix l [45]) [47]).2.1))
    else none
  else
    if EM (Lib.cut (Lib.trimPrefix l [45]) [46]).1=true∧((Lib.cut (Lib.trimPrefix l [45]) [46]).2.2=true→digB (Lib.cut (Lib.trimPrefix l [45]) [46]).2.1=true) then
      some (mkRat (sgn (Lib.hasPrefix l [45]) (GY ((Lib.cut (Lib.trimPrefix l [45]) [46]).1++(Lib.cut (Lib.trimPrefix l [45]) [46]).2.1))) (10^(Lib.cut (Lib.trimPrefix l [45]) [46]).2.1.length))
    else none
def Ih (s:ByteArray):Rat × Int :=
  if 2000<s.size then (0,5) else
    match Ig' s.data.toList with
    | none=>(0,4)
    | some q=>(q,0)
def BF (w:World) (b:Bool) (e:Ending) (w':World):Prop:=e=.returned (.bool b)∧Below w.heap.size w w'
def Cj' (w:World) (B:Nat) (v0 v1 v2:Value):Prop:=w.cell? ⟨B,0,none⟩=some v0∧w.cell? ⟨B,1,none⟩=some v1∧w.cell? ⟨B,2,none⟩=some v2
theorem Cj'.call {w w':World} {B:Nat} {v0 v1 v2:Value} (h:Cj' w B v0 v1 v2) (hb:Below w.heap.size w w'):Cj' w' B v0 v1 v2:=by
 have hl:=bL w _ h.1
 exact ⟨(hb.cell (p:=⟨B,0,none⟩) hl).trans h.1,(hb.cell (p:=⟨B,1,none⟩) hl).trans h.2.1,(hb.cell (p:=⟨B,2,none⟩) hl).trans h.2.2⟩
theorem Cj'.drew {w:World} {B:Nat} {v0 v1 v2:Value} (h:Cj' w B v0 v1 v2):Cj' w.drew B v0 v1 v2:=h.call ⟨rfl,rfl,rfl,nL _,fun _ _=>rfl⟩
theorem Cj'.put {w:World} {B G:Nat} {v0 v1 v2:Value} (h:Cj' w B v0 v1 v2) (hne:B≠G) (i:Nat) (v:Value):Cj' (w.setCell ⟨G,i,none⟩ v) B v0 v1 v2:=by
 refine ⟨?_,?_,?_⟩ <;> rw [World.cell?_setCell_other _ _ _ _ (by intro e;injection e with e1;omega)]
 · exact h.1
 · exact h.2.1
 · exact h.2.2
def Aj (w:World) (v:Value) (a b:Rat):Prop :=
  ∃ v1 v2 v3 v4,v=.agg #[.bool (decide (a.num<0)),v1,v2,.bool (decide (b.num<0)),v3,v4]∧Nt w v1 a.num.natAbs∧Nt w v2 (below a.den)∧Nt w v3 b.num.natAbs∧Nt w v4 (below b.den)
theorem Aj.keep {w w':World} {v:Value} {a b:Rat} (h:Aj w v a b) (hb:Below w.heap.size w w'):Aj w' v a b:=by
 obtain ⟨v1,v2,v3,v4,h0,h1,h2,h3,h4⟩:=h
 exact ⟨v1,v2,v3,v4,h0,h1.keep hb,h2.keep hb,h3.keep hb,h4.keep hb⟩
theorem Aj.opened {w:World} {v:Value} {a b:Rat} (h:Aj w v a b):∃ A1 c1 A2 c2 A3 c3 A4 c4,
   v=.agg #[.bool (decide (a.num<0)),.slice A1 (len a.num.natAbs) c1,.slice A2 (len (below a.den)) c2,.bool (decide (b.num<0)),.slice A3 (len b.num.natAbs) c3,.slice A4 (len (below b.den)) c4] ∧
   Ad' w (.agg #[.bool (decide (a.num<0)),.slice A1 (len a.num.natAbs) c1,.slice A2 (len (below a.den)) c2]) a∧Ad' w (.agg #[.bool (decide (b.num<0)),.slice A3 (len b.num.natAbs) c3,.slice A4 (len (below b.den)) c4]) b:=by
 obtain ⟨v1,v2,v3,v4,rfl,h1,h2,h3,h4⟩:=h
 obtain ⟨A1,c1,rfl,-⟩:=id h1
 obtain ⟨A2,c2,rfl,-⟩:=id h2
 obtain ⟨A3,c3,rfl,-⟩:=id h3
 obtain ⟨A4,c4,rfl,-⟩:=id h4
 exact ⟨A1,c1,A2,c2,A3,c3,A4,c4,rfl,⟨_,_,rfl,h1,h2⟩,⟨_,_,rfl,h3,h4⟩⟩
theorem Ad'.pair {w:World} {A1 c1 A2 c2 A3 c3 A4 c4} {a b:Rat} {n1 n2 n3 n4:Nat} {s1 s2:Bool} (h1:Ad' w (.agg #[.bool s1,.slice A1 n1 c1,.slice A2 n2 c2]) a) (h2:Ad' w (.agg #[.bool s2,.slice A3 n3 c3,.slice A4 n4 c4]) b) :
   Aj w (.agg #[.bool s1,.slice A1 n1 c1,.slice A2 n2 c2,.bool s2,.slice A3 n3 c3,.slice A4 n4 c4]) a b:=by
 obtain ⟨u1,u2,e1,h3,h4⟩:=h1
 obtain ⟨u3,u4,e2,h5,h6⟩:=h2
 simp only [Value.agg.injEq,Array.mk.injEq,List.cons.injEq,Value.bool.injEq,and_true] at e1 e2
 obtain ⟨rfl,rfl,rfl⟩:=e1
 obtain ⟨rfl,rfl,rfl⟩:=e2
 exact ⟨_,_,_,_,rfl,h3,h4,h5,h6⟩
def AQ (w:World) (a b:Rat) (e:Ending) (w':World):Prop:=∃ v,e=.returned v∧Aj w' v a b∧Below w.heap.size w w'
theorem Bm {w:World} {v:Value} {a b:Rat} (hv:Aj w v a b) (hs:Ab' a≤1099511627776) :
   Calls Tryz.prog 30 #[v] w (Ao' w a):=by
 obtain ⟨A1,c1,A2,c2,A3,c3,A4,c4,rfl,hx,hy⟩:=hv.opened
 obtain ⟨wB,hwB⟩:=eX ((w.alloc (.cells #[.bool (decide (a.num<0)),.slice A1 (len a.num.natAbs) c1,.slice A2 (len (below a.den)) c2,.bool (decide (b.num<0)),.slice A3 (len b.num.natAbs) c3,.slice A4 (len (below b.den)) c4] 34)).alloc (.cells #[.bool false,.slice none 0 0,.slice none 0 0] 32))
 obtain ⟨b0,gA,gB⟩:=AA' hwB
 obtain ⟨k0,k1,k2,k3,k4,k5⟩:=Af gA
 have HK0:=hid (Ak'.start (T:=32) rfl (AK' _ _ _ _ _ _ _) gB)
 have HB0:=hid b0
 have hlt1:w.heap.size<w.heap.size+1:=by omega
 clear gA gB b0
 have HX:=hid (AC' (hx.keep HB0.out) hs)
 clear hs hx hy hv
 go_enter Tryz.func30,Tryz.ntmps30
 go_upto_region 1 with fail
 rw [←hwB]
 clear hwB
 go_wp2_with fail
 refine (HX.out).mono ?_
 rintro e w5 ⟨v5,rfl,hv5,b5⟩
 obtain ⟨C1,j1,C2,j2,rfl,-,-⟩:=hv5.opened
 have hk:=(HK0.out.call b5).held (Aj'.refl _)
 clear b5 HX
 obtain ⟨-,c0,c1',c2',f0,f1,f2,-⟩:=id hk
 have HD:=hk.done (q:=a) (b:=decide (a.num<0)) (A1:=C1) (n1:=len a.num.natAbs) (c1:=j1) (A2:=C2) (n2:=len (below a.den)) (c2:=j2) (hv5)
 obtain ⟨d1,d2,d3⟩:=HD
 obtain ⟨r0,r1,r2⟩:=Ae d3
 have HD:=hid (And.intro d1 d2)
 clear d1 d2 d3
 go_wp2_with fail
 refine bP (v:=.agg #[.bool (decide (a.num<0)),.slice (C1) (len a.num.natAbs) (j1),.slice (C2) (len (below a.den)) (j2)]) ?_ rfl ⟨_,rfl,HD.out.1,Ai HB0.out (by omega) HD.out.2⟩
 simp [results,Tryz.results30,go_sem,r0,r1,r2]
theorem BS {w:World} {v:Value} {a b:Rat} (hv:Aj w v a b) (hs:Ab' b≤1099511627776) :
   Calls Tryz.prog 32 #[v] w (Ao' w b):=by
 obtain ⟨A1,c1,A2,c2,A3,c3,A4,c4,rfl,hx,hy⟩:=hv.opened
 obtain ⟨wB,hwB⟩:=eX ((w.alloc (.cells #[.bool (decide (a.num<0)),.slice A1 (len a.num.natAbs) c1,.slice A2 (len (below a.den)) c2,.bool (decide (b.num<0)),.slice A3 (len b.num.natAbs) c3,.slice A4 (len (below b.den)) c4] 34)).alloc (.cells #[.bool false,.slice none 0 0,.slice none 0 0] 32))
 obtain ⟨b0,gA,gB⟩:=AA' hwB
 obtain ⟨k0,k1,k2,k3,k4,k5⟩:=Af gA
 have HK0:=hid (Ak'.start (T:=32) rfl (AK' _ _ _ _ _ _ _) gB)
 have HB0:=hid b0
 have hlt1:w.heap.size<w.heap.size+1:=by omega
 clear gA gB b0
 have HX:=hid (AC' (hy.keep HB0.out) hs)
 clear hs hx hy hv
 go_enter Tryz.func32,Tryz.ntmps32
 go_upto_region 1 with fail
 rw [←hwB]
 clear hwB
 go_wp2_with fail
 refine (HX.out).mono ?_
 rintro e w5 ⟨v5,rfl,hv5,b5⟩
 obtain ⟨C1,j1,C2,j2,rfl,-,-⟩:=hv5.opened
 have hk:=(HK0.out.call b5).held (Aj'.refl _)
 clear b5 HX
 obtain ⟨-,c0,c1',c2',f0,f1,f2,-⟩:=id hk
 have HD:=hk.done (q:=b) (b:=decide (b.num<0)) (A1:=C1) (n1:=len b.num.natAbs) (c1:=j1) (A2:=C2) (n2:=len (below b.den)) (c2:=j2) (hv5)
 obtain ⟨d1,d2,d3⟩:=HD
 obtain ⟨r0,r1,r2⟩:=Ae d3
 have HD:=hid (And.intro d1 d2)
 clear d1 d2 d3
 go_wp2_with fail
 refine bP (v:=.agg #[.bool (decide (b.num<0)),.slice (C1) (len b.num.natAbs) (j1),.slice (C2) (len (below b.den)) (j2)]) ?_ rfl ⟨_,rfl,HD.out.1,Ai HB0.out (by omega) HD.out.2⟩
 simp [results,Tryz.results32,go_sem,r0,r1,r2]
def An' (wB:World) (G:Nat) (wS w:World):Prop :=
  (∀ b o,b<G→w.cell? ⟨b,o,none⟩=wB.cell? ⟨b,o,none⟩)∧w.cell? ⟨G,0,none⟩=some (cur w ⟨G,0,none⟩)∧w.cell? ⟨G,1,none⟩=some (cur w ⟨G,1,none⟩)∧w.cell? ⟨G,2,none⟩=some (cur w ⟨G,2,none⟩)∧w.cell? ⟨G,3,none⟩=some (cur w ⟨G,3,none⟩)∧w.cell? ⟨G,4,none⟩=some (cur w ⟨G,4,none⟩)∧w.cell? ⟨G,5,none⟩=some (cur w ⟨G,5,none⟩)∧w.frozen? ⟨G,0,none⟩=false∧w.frozen? ⟨G,1,none⟩=false∧w.frozen? ⟨G,2,none⟩=false∧w.frozen? ⟨G,3,none⟩=false∧w.frozen? ⟨G,4,none⟩=false∧w.frozen? ⟨G,5,none⟩=false∧Ak' 6 34 wB (G) w∧Aj' wS w
theorem Ak'.held6 {wB wS w:World} {G:Nat} (h:Ak' 6 34 wB G w) (hS:Aj' wS w):An' wB G wS w:=by
 obtain ⟨hb,cs,hs,hp,hg⟩:=id h
 exact ⟨Aq hb,BV' hg (by omega),BV' hg (by omega),BV' hg (by omega),BV' hg (by omega),BV' hg (by omega),BV' hg (by omega),fR w G 0 _ _ hg,fR w G 1 _ _ hg,fR w G 2 _ _ hg,fR w G 3 _ _ hg,fR w G 4 _ _ hg,fR w G 5 _ _ hg,h,hS⟩
theorem An'.kept {wB wS w:World} {G:Nat} (h:An' wB G wS w):Ak' 6 34 wB G w:=by
 obtain ⟨-,-,-,-,-,-,-,-,-,-,-,-,-,h,-⟩:=h
 exact h
theorem An'.stay {wB wS w:World} {G:Nat} (h:An' wB G wS w):Aj' wS w:=by
 obtain ⟨-,-,-,-,-,-,-,-,-,-,-,-,-,-,h⟩:=h
 exact h
theorem An'.call {wB wS w w':World} {G:Nat} (h:An' wB G wS w) (hb:Below w.heap.size w w'):An' wB G wS w':=(h.kept.call hb).held6 (h.stay.call hb)
theorem Ak'.begin6 {wB w:World} {G:Nat} (h:Ak' 6 34 wB G w):An' wB G w w.drew:=h.drew.held6 (fun _ _ hv=>hv.keep ⟨rfl,rfl,rfl,nL _,fun _ _=>rfl⟩)
theorem BW {s1 s2:Bool} {A1 A2 A3 A4:Option Addr} {n1 c1 n2 c2 n3 c3 n4 c4:Nat}:Cw' #[.bool s1,.slice A1 n1 c1,.slice A2 n2 c2,.bool s2,.slice A3 n3 c3,.slice A4 n4 c4]:=by
 intro i k n
 match i with
 | 0=>exact fun h=>by cases h
 | 1=>exact fun h=>by cases h
 | 2=>exact fun h=>by cases h
 | 3=>exact fun h=>by cases h
 | 4=>exact fun h=>by cases h
 | 5=>exact fun h=>by cases h
 | _+6=>exact fun h=>by cases h
theorem An'.store {wB wS w:World} {G:Nat} {s1 s2:Bool} {A1 A2 A3 A4:Option Addr} {n1 c1 n2 c2 n3 c3 n4 c4:Nat} (h:An' wB G wS w) :
   An' wB G wS ((((((w.setCell ⟨G,0,none⟩ (.bool s1)).setCell ⟨G,1,none⟩ (.slice A1 n1 c1)).setCell ⟨G,2,none⟩ (.slice A2 n2 c2)).setCell ⟨G,3,none⟩ (.bool s2)).setCell ⟨G,4,none⟩ (.slice A3 n3 c3)).setCell ⟨G,5,none⟩ (.slice A4 n4 c4)):=by
 have k0:=h.kept
 have k1:=k0.set (i:=0) (AO s1)
 have k2:=k1.set (i:=1) (Au A1 n1 c1)
 have k3:=k2.set (i:=2) (Au A2 n2 c2)
 have k4:=k3.set (i:=3) (AO s2)
 have k5:=k4.set (i:=4) (Au A3 n3 c3)
 have k6:=k5.set (i:=5) (Au A4 n4 c4)
 exact k6.held6 ((((((h.stay.put k0).put k1).put k2).put k3).put k4).put k5)
theorem six {l:List Value} (h:l.length=6):∃ x0 x1 x2 x3 x4 x5,l=[x0,x1,x2,x3,x4,x5]:=by
 rcases l with _ | ⟨x0,l⟩
 · simp only [List.length_nil] at h;omega
 rcases l with _ | ⟨x1,l⟩
 · simp only [List.length_nil,List.length_cons] at h;omega
 rcases l with _ | ⟨x2,l⟩
 · simp only [List.length_nil,List.length_cons] at h;omega
 rcases l with _ | ⟨x3,l⟩
 · simp only [List.length_nil,List.length_cons] at h;omega
 rcases l with _ | ⟨x4,l⟩
 · simp only [List.length_nil,List.length_cons] at h;omega
 rcases l with _ | ⟨x5,l⟩
 · simp only [List.length_nil,List.length_cons] at h;omega
 rcases l with _ | ⟨x6,l⟩
 · exact ⟨x0,x1,x2,x3,x4,x5,rfl⟩
 · simp only [List.length_cons] at h;omega
theorem Eq' {w:World} {G:Nat} {T:TypeId} {cs:Array Value} (hs:cs.size=6) (hg:w.heap[G]?=some (.cells cs T (0,0))) (a b c d e f:Value) :
   ((((((w.setCell ⟨G,0,none⟩ a).setCell ⟨G,1,none⟩ b).setCell ⟨G,2,none⟩ c).setCell ⟨G,3,none⟩ d).setCell ⟨G,4,none⟩ e).setCell ⟨G,5,none⟩ f).heap[G]?=some (.cells #[a,b,c,d,e,f] T (0,0)):=by
 have g1:=heap_setCell_same w G 0 _ _ a hg
 have g2:=heap_setCell_same _ G 1 _ _ b g1
 have g3:=heap_setCell_same _ G 2 _ _ c g2
 have g4:=heap_setCell_same _ G 3 _ _ d g3
 have g5:=heap_setCell_same _ G 4 _ _ e g4
 have g6:=heap_setCell_same _ G 5 _ _ f g5
 rw [g6]
 obtain ⟨l⟩:=cs
 obtain ⟨x0,x1,x2,x3,x4,x5,rfl⟩:=six hs
 rfl
theorem An'.done {wB wS w:World} {G:Nat} {s1 s2:Bool} {A1 A2 A3 A4:Option Addr} {n1 c1 n2 c2 n3 c3 n4 c4:Nat} {p q:Rat} (h:An' wB G wS w) (hp:Ad' w (.agg #[.bool s1,.slice A1 n1 c1,.slice A2 n2 c2]) p) (hq:Ad' w (.agg #[.bool s2,.slice A3 n3 c3,.slice A4 n4 c4]) q) :
   Aj ((((((w.setCell ⟨G,0,none⟩ (.bool s1)).setCell ⟨G,1,none⟩ (.slice A1 n1 c1)).setCell ⟨G,2,none⟩ (.slice A2 n2 c2)).setCell ⟨G,3,none⟩ (.bool s2)).setCell ⟨G,4,none⟩ (.slice A3 n3 c3)).setCell ⟨G,5,none⟩ (.slice A4 n4 c4)) (.agg #[.bool s1,.slice A1 n1 c1,.slice A2 n2 c2,.bool s2,.slice A3 n3 c3,.slice A4 n4 c4]) p q ∧
   Below G wB ((((((w.setCell ⟨G,0,none⟩ (.bool s1)).setCell ⟨G,1,none⟩ (.slice A1 n1 c1)).setCell ⟨G,2,none⟩ (.slice A2 n2 c2)).setCell ⟨G,3,none⟩ (.bool s2)).setCell ⟨G,4,none⟩ (.slice A3 n3 c3)).setCell ⟨G,5,none⟩ (.slice A4 n4 c4)) ∧
   ((((((w.setCell ⟨G,0,none⟩ (.bool s1)).setCell ⟨G,1,none⟩ (.slice A1 n1 c1)).setCell ⟨G,2,none⟩ (.slice A2 n2 c2)).setCell ⟨G,3,none⟩ (.bool s2)).setCell ⟨G,4,none⟩ (.slice A3 n3 c3)).setCell ⟨G,5,none⟩ (.slice A4 n4 c4)).heap[G]?=some (.cells #[.bool s1,.slice A1 n1 c1,.slice A2 n2 c2,.bool s2,.slice A3 n3 c3,.slice A4 n4 c4] 34 (0,0)):=by
 have k0:=h.kept
 have k1:=k0.set (i:=0) (AO s1)
 have k2:=k1.set (i:=1) (Au A1 n1 c1)
 have k3:=k2.set (i:=2) (Au A2 n2 c2)
 have k4:=k3.set (i:=3) (AO s2)
 have k5:=k4.set (i:=4) (Au A3 n3 c3)
 have k6:=k5.set (i:=5) (Au A4 n4 c4)
 refine ⟨Ad'.pair (((((((hp.put k0).put k1).put k2).put k3).put k4).put k5)) (((((((hq.put k0).put k1).put k2).put k3).put k4).put k5)),k6.1,?_⟩
 obtain ⟨_,cs,hs,_,hg⟩:=k0
 exact Eq' hs hg _ _ _ _ _ _
theorem Cx' {w:World} {vx:Value} {x:Rat} (hx:Ad' w vx x) (hs:Ab' x≤1099511627776) :
   Calls Tryz.prog 15 #[vx] w (AQ w x x):=by
 obtain ⟨A1,c1,A2,c2,rfl,hx1,hx2⟩:=hx.opened
 obtain ⟨wB,hwB⟩:=eX ((w.alloc (.cells #[.bool (decide (x.num<0)),.slice A1 (len x.num.natAbs) c1,.slice A2 (len (below x.den)) c2] 32)).alloc (.cells #[.bool false,.slice none 0 0,.slice none 0 0,.bool false,.slice none 0 0,.slice none 0 0] 34))
 obtain ⟨b0,gA,gB⟩:=AA' hwB
 obtain ⟨k0,k1,k2⟩:=Ae gA
 have HK0:=hid (Ak'.start (T:=34) rfl BW gB)
 have HB0:=hid b0
 have hlt1:w.heap.size<w.heap.size+1:=by omega
 clear gA gB b0
 have hxB:=hx.keep HB0.out
 have H0:=HK0.out.begin6
 have H0':=H0
 unfold An' at H0'
 have HX:=fun (w':World) (hk:An' wB (w.heap.size+1) wB w')=>hid (AC' (hk.stay.num hxB) hs)
 clear hx hs hxB hx1 hx2
 go_enter Tryz.func15,Tryz.ntmps15
 go_upto_region 1 with fail
 rw [←hwB]
 clear hwB
 go_wp2_with fail
 go_region_held3 (fun w'=>(∀ b o,b<w.heap.size+1→w'.cell? ⟨b,o,none⟩=wB.cell? ⟨b,o,none⟩)∧w'.cell? ⟨w.heap.size+1,0,none⟩=some (cur w' ⟨w.heap.size+1,0,none⟩)∧w'.cell? ⟨w.heap.size+1,1,none⟩=some (cur w' ⟨w.heap.size+1,1,none⟩)∧w'.cell? ⟨w.heap.size+1,2,none⟩=some (cur w' ⟨w.heap.size+1,2,none⟩)∧w'.cell? ⟨w.heap.size+1,3,none⟩=some (cur w' ⟨w.heap.size+1,3,none⟩)∧w'.cell? ⟨w.heap.size+1,4,none⟩=some (cur w' ⟨w.heap.size+1,4,none⟩)∧w'.cell? ⟨w.heap.size+1,5,none⟩=some (cur w' ⟨w.heap.size+1,5,none⟩)∧w'.frozen? ⟨w.heap.size+1,0,none⟩=false∧w'.frozen? ⟨w.heap.size+1,1,none⟩=false∧w'.frozen? ⟨w.heap.size+1,2,none⟩=false∧w'.frozen? ⟨w.heap.size+1,3,none⟩=false∧w'.frozen? ⟨w.heap.size+1,4,none⟩=false∧w'.frozen? ⟨w.heap.size+1,5,none⟩=false∧Ak' 6 34 wB (w.heap.size+1) w'∧Aj' wB w')
   (first | with_reducible exact H0' | with_reducible exact hk1' | with_reducible exact hk2' | exact hk2.store)
   (first | (go_at_call 48;refine ((HX _ hk1).out).mono ?_;rintro e w2 ⟨v2,rfl,hv2,hbl2⟩;obtain ⟨C3,j3,C4,j4,rfl,-,-⟩:=hv2.opened;have hk2:=hk1.call hbl2;have hk2':=hk2;unfold An' at hk2') | (go_at_call 48;refine ((HX _ H0).out).mono ?_;rintro e w1 ⟨v1,rfl,hv1,hbl1⟩;obtain ⟨C1,j1,C2,j2,rfl,-,-⟩:=hv1.opened;have hk1:=H0.call hbl1;have hk1':=hk1;unfold An' at hk1'))
 rename_i hHl
 clear hHl
 have hv1':=hv1.keep hbl2
 have HD:=hk2.done (p:=x) (q:=x) (s1:=decide (x.num<0)) (A1:=C1) (n1:=len x.num.natAbs) (c1:=j1) (A2:=C2) (n2:=len (below x.den)) (c2:=j2) (s2:=decide (x.num<0)) (A3:=C3) (n3:=len x.num.natAbs) (c3:=j3) (A4:=C4) (n4:=len (below x.den)) (c4:=j4) (hv1') (hv2)
 obtain ⟨d1,d2,d3⟩:=HD
 obtain ⟨r0,r1,r2,r3,r4,r5⟩:=Af d3
 have HD:=hid (And.intro d1 d2)
 clear d1 d2 d3
 go_wp2_with fail
 refine bP (v:=.agg #[.bool (decide (x.num<0)),.slice (C1) (len x.num.natAbs) (j1),.slice (C2) (len (below x.den)) (j2),.bool (decide (x.num<0)),.slice (C3) (len x.num.natAbs) (j3),.slice (C4) (len (below x.den)) (j4)]) ?_ rfl ⟨_,rfl,HD.out.1,Ai HB0.out (by omega) HD.out.2⟩
 simp [results,Tryz.results15,go_sem,r0,r1,r2,r3,r4,r5]
def Bw' (w:World) (a b:Rat) (c:Int) (e:Ending) (w':World):Prop:=∃ v,e=.returned (.tuple #[v,.int .i64 c])∧Aj w' v a b∧Below w.heap.size w w'
theorem CH' {x y:Rat} (h:x≤y):¬ 0<cmpQ x y:=by
 unfold cmpQ
 split
 · omega
 · split
   · omega
   · rename_i h1 h2
     exact absurd (Rat.le_antisymm h (Rat.not_lt.1 h1)) h2
theorem D0' {x y:Rat} (h:¬ x≤y):0<cmpQ x y:=by
 unfold cmpQ
 rw [if_neg (fun e=>h (Rat.le_of_lt e)),if_neg (fun e=>h (by rw [e];exact Rat.le_refl))]
 omega
theorem EM' {w:World} {vx vy:Value} {x y:Rat} (hx:Ad' w vx x) (hy:Ad' w vy y) (hs:Ab' x≤34359738368) (ht:Ab' y≤34359738368) (h:x≤y) :
   Calls Tryz.prog 22 #[vx,vy] w (Bw' w x y 0):=by
 obtain ⟨A1,c1,A2,c2,rfl,-,-⟩:=id hx.opened
 obtain ⟨A3,c3,A4,c4,rfl,-,-⟩:=id hy.opened
 obtain ⟨wB,hwB⟩:=eX (((w.alloc (.cells #[.bool (decide (x.num<0)),.slice A1 (len x.num.natAbs) c1,.slice A2 (len (below x.den)) c2] 32)).alloc (.cells #[.bool (decide (y.num<0)),.slice A3 (len y.num.natAbs) c3,.slice A4 (len (below y.den)) c4] 32)).alloc (.cells #[.bool false,.slice none 0 0,.slice none 0 0,.bool false,.slice none 0 0,.slice none 0 0] 34))
 obtain ⟨b0,g0,g1,g2⟩:=AD hwB
 obtain ⟨k0,k1,k2⟩:=Ae g0
 obtain ⟨k3,k4,k5⟩:=Ae g1
 have HK0:=hid (Ak'.start (T:=34) rfl BW g2)
 have HB0:=hid b0
 have hlt1:w.heap.size<w.heap.size+2:=by omega
 have hlt2:w.heap.size+1<w.heap.size+2:=by omega
 clear g0 g1 g2 b0
 have HC:=hid (AT (hx.keep HB0.out) (hy.keep HB0.out) hs ht)
 obtain ⟨cc,hcc⟩:=eX (cmpQ x y:Int)
 have hle:decide (cc>0)=false:=dF_ (by rw [hcc];exact CH' h)
 rw [←hcc] at HC
 clear hcc h
 have HX:=fun (w1 w':World) (hb:Below w.heap.size w w1) (hk:An' wB (w.heap.size+2) w1 w')=>hid (AC' (hk.stay.num (hx.keep hb)) (nT hs (by omega)))
 have HY:=fun (w1 w':World) (hb:Below w.heap.size w w1) (hk:An' wB (w.heap.size+2) w1 w')=>hid (AC' (hk.stay.num (hy.keep hb)) (nT ht (by omega)))
 clear hx hy hs ht
 go_enter Tryz.func22,Tryz.ntmps22
 go_wp2_with fail
 rw [←hwB]
 clear hwB
 refine (HC.out).mono ?_
 rintro e w0 ⟨rfl,b1⟩
 have HK1:=hid (HK0.out.call b1)
 have HX:=fun (w':World) (hk:An' wB (w.heap.size+2) w0 w')=>HX w0 w' (Ai HB0.out (by omega) HK1.out.1) hk
 have HY:=fun (w':World) (hk:An' wB (w.heap.size+2) w0 w')=>HY w0 w' (Ai HB0.out (by omega) HK1.out.1) hk
 have H0:=HK1.out.begin6
 have H0':=H0
 unfold An' at H0'
 go_wp2_with fail
 go_region_held3 (fun w'=>(∀ b o,b<w.heap.size+2→w'.cell? ⟨b,o,none⟩=wB.cell? ⟨b,o,none⟩)∧w'.cell? ⟨w.heap.size+2,0,none⟩=some (cur w' ⟨w.heap.size+2,0,none⟩)∧w'.cell? ⟨w.heap.size+2,1,none⟩=some (cur w' ⟨w.heap.size+2,1,none⟩)∧w'.cell? ⟨w.heap.size+2,2,none⟩=some (cur w' ⟨w.heap.size+2,2,none⟩)∧w'.cell? ⟨w.heap.size+2,3,none⟩=some (cur w' ⟨w.heap.size+2,3,none⟩)∧w'.cell? ⟨w.heap.size+2,4,none⟩=some (cur w' ⟨w.heap.size+2,4,none⟩)∧w'.cell? ⟨w.heap.size+2,5,none⟩=some (cur w' ⟨w.heap.size+2,5,none⟩)∧w'.frozen? ⟨w.heap.size+2,0,none⟩=false∧w'.frozen? ⟨w.heap.size+2,1,none⟩=false∧w'.frozen? ⟨w.heap.size+2,2,none⟩=false∧w'.frozen? ⟨w.heap.size+2,3,none⟩=false∧w'.frozen? ⟨w.heap.size+2,4,none⟩=false∧w'.frozen? ⟨w.heap.size+2,5,none⟩=false∧Ak' 6 34 wB (w.heap.size+2) w'∧Aj' w0 w')
   (first | with_reducible exact H0' | with_reducible exact hk1' | with_reducible exact hk2' | exact hk2.store)
   (first | (go_at_call 48;refine ((HY _ hk1).out).mono ?_;rintro e w2 ⟨v2,rfl,hv2,hbl2⟩;obtain ⟨C3,j3,C4,j4,rfl,-,-⟩:=id hv2.opened;have hk2:=hk1.call hbl2;have hk2':=hk2;unfold An' at hk2') | (go_at_call 48;refine ((HX _ H0).out).mono ?_;rintro e w1 ⟨v1,rfl,hv1,hbl1⟩;obtain ⟨C1,j1,C2,j2,rfl,-,-⟩:=id hv1.opened;have hk1:=H0.call hbl1;have hk1':=hk1;unfold An' at hk1'))
 rename_i hHl
 clear hHl
 have hv1':=hv1.keep hbl2
 have HD:=hk2.done (p:=x) (q:=y) (s1:=decide (x.num<0)) (A1:=C1) (n1:=len x.num.natAbs) (c1:=j1) (A2:=C2) (n2:=len (below x.den)) (c2:=j2) (s2:=decide (y.num<0)) (A3:=C3) (n3:=len y.num.natAbs) (c3:=j3) (A4:=C4) (n4:=len (below y.den)) (c4:=j4) (hv1') (hv2)
 obtain ⟨d1,d2,d3⟩:=HD
 obtain ⟨r0,r1,r2,r3,r4,r5⟩:=Af d3
 have HD:=hid (And.intro d1 d2)
 clear d1 d2 d3
 go_wp2_with fail
 refine bP (v:=.tuple #[.agg #[.bool (decide (x.num<0)),.slice (C1) (len x.num.natAbs) (j1),.slice (C2) (len (below x.den)) (j2),.bool (decide (y.num<0)),.slice (C3) (len y.num.natAbs) (j3),.slice (C4) (len (below y.den)) (j4)],.int .i64 0]) ?_ rfl ⟨_,rfl,HD.out.1,Ai HB0.out (by omega) HD.out.2⟩
 simp [results,Tryz.results22,go_sem,r0,r1,r2,r3,r4,r5]
end Go.Proofs.YtcicfnlljdnagaaGreatDoor
