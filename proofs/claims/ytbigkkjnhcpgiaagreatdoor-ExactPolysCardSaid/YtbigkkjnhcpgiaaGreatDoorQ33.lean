/-
  Contracts of the functions that the law calls, for every input (OrT Rw Rx Ry Rq Rr Rs).
-/
import Derived.Test.YtbigkkjnhcpgiaaGreatDoorQ00
import Derived.Test.YtbigkkjnhcpgiaaGreatDoorQ19
import Derived.Test.YtbigkkjnhcpgiaaGreatDoorQ32
import Derived.Test.YtbigkkjnhcpgiaaGreatDoorQ26
import Derived.Deep.LoopGhost
import Derived.Test.YtbigkkjnhcpgiaaGreatDoorQ29
set_option linter.all false
set_option maxRecDepth 100000
set_option maxHeartbeats 40000000
namespace Go.Proofs.YtbigkkjnhcpgiaaGreatDoor
open Lib (hid)
open Vx
theorem Jm' (n:Nat):AB n≠[]:=by
 unfold AB
 split
 · intro h;cases h
 · assumption
theorem Hi {a b:List UInt8} {c:UInt8} (h:c ∉ a):Lib.index (a++c::b) [c]=a.length:=by
 induction a with
 | nil=>simp [Lib.index,List.isPrefixOf]
 | cons x a ih =>
   have hx:¬ c=x:=fun e=>h (by rw [e];exact List.mem_cons_self)
   have ih2:=ih (fun hm=>h (List.mem_cons_of_mem _ hm))
   rw [List.cons_append]
   unfold Lib.index
   rw [ih2]
   have e1:([c]:List UInt8).isPrefixOf (x::(a++c::b))=false:=by
     simp [List.isPrefixOf,hx]
   rw [e1]
   have e2:((a.length:Int) == -1)=false:=by rw [beq_eq_false_iff_ne];omega
   rw [e2]
   simp
theorem In {a:List UInt8} {c:UInt8} (h:c ∉ a):Lib.index a [c] = -1:=by
 induction a with
 | nil=>rfl
 | cons x a ih =>
   have hx:¬ c=x:=fun e=>h (by rw [e];exact List.mem_cons_self)
   have ih2:=ih (fun hm=>h (List.mem_cons_of_mem _ hm))
   unfold Lib.index
   rw [ih2]
   have e1:([c]:List UInt8).isPrefixOf (x::a)=false:=by simp [List.isPrefixOf,hx]
   rw [e1]
   rfl
theorem FY {a b:List UInt8} {c:UInt8} (h:c ∉ a):Lib.cut (a++[c]++b) [c]=(a,b,true):=by
 have e:a++[c]++b=a++c::b:=by simp
 unfold Lib.cut
 rw [e,Hi h,if_pos (by omega)]
 simp
theorem Ff' {a:List UInt8} {c:UInt8} (h:c ∉ a):Lib.cut a [c]=(a,[],false):=by
 unfold Lib.cut
 rw [In h,if_neg (by omega)]
theorem Gr (l:List UInt8):Lib.hasPrefix ([45]++l) [45]=true∧Lib.trimPrefix ([45]++l) [45]=l:=by
 have h:Lib.hasPrefix ([45]++l) [45]=true:=by simp [Lib.hasPrefix,List.isPrefixOf]
 refine ⟨h,?_⟩
 unfold Lib.trimPrefix
 rw [if_pos h];rfl
theorem Gr' {l:List UInt8} {c:UInt8} {m:List UInt8} (h:l=c::m) (hc:c≠45):Lib.hasPrefix l [45]=false∧Lib.trimPrefix l [45]=l:=by
 have h1:Lib.hasPrefix l [45]=false:=by
   rw [h]
   have:¬ (45:UInt8)=c:=fun e=>hc e.symm
   simp [Lib.hasPrefix,List.isPrefixOf,this]
 refine ⟨h1,?_⟩
 unfold Lib.trimPrefix
 rw [if_neg (by rw [h1];decide)]
theorem Hi':AH' 47=false:=by decide
theorem Hj:AH' 46=false:=by decide
theorem Gs {n k:Nat} (h:n<10^k) (hk:0<k):(AB n).length≤k:=by
 rw [E7' h]
 split
 · show 1≤k
   omega
 · have:=List.Sublist.length_le (List.dropWhile_sublist (l:=digs k n) (fun c=>c==48))
   rw [Bj'] at this
   exact this
end Go.Proofs.YtbigkkjnhcpgiaaGreatDoor
namespace Go.Proofs.YtbigkkjnhcpgiaaGreatDoor.Rf
open Lib (hid)
open Go.RowKit
open Rx
open List renaming getElem?_toArray → lg, getElem?_cons_zero → lz, getElem?_cons_succ → ls, setIfInBounds_toArray → lt, set_cons_zero → ly, set_cons_succ → lu
def C0' (l:List UInt8) (n d:Nat):List UInt8 :=
  l++if d=2^vp 2 d*5^vp 5 d then AR' (AB (n*5^(max (vp 2 d) (vp 5 d) - vp 5 d)*2^(max (vp 2 d) (vp 5 d) - vp 2 d))) (max (vp 2 d) (vp 5 d)) else AB n++[47]++AB d
theorem In' (q:Rat):AH q=C0' (if q.num<0 then [45] else []) q.num.natAbs q.den:=rfl
theorem Gs' {l:List UInt8} {n d t f c:Nat} (h:d=2^t*5^f*c) (h2:c%2=1) (h5:c%5≠0) (hc:c≠1):C0' l n d=l++(AB n++[47]++AB d):=by
 obtain ⟨e1,e2⟩:=Ff h h2 h5
 unfold C0'
 rw [e1,e2,if_neg (fun e=>hc ((IJ' h).2 e))]
theorem Hj' {l:List UInt8} {n d t f c k:Nat} (h:d=2^t*5^f*c) (h2:c%2=1) (h5:c%5≠0) (hc:c=1) (hk:max t f=k):C0' l n d=l++AR' (AB (n*10^k / d)) k:=by
 obtain ⟨e1,e2⟩:=Ff h h2 h5
 unfold C0'
 have e:=(IJ' h).1 hc
 rw [e1,e2,if_pos e,hk,←Im' (by omega) (by omega),←e]
theorem Ez' {d t r:Nat} (h:d=2^t*r) (h0:0<d):t≤16*len d:=by
 have hr:0<r:=by
   rcases Nat.eq_zero_or_pos r with e | e
   · rw [e,Nat.mul_zero] at h;omega
   · exact e
 have h1:2^t≤d:=by rw [h];exact Nat.le_mul_of_pos_right _ hr
 have h2:2^t<2^(16*len d):=Nat.lt_of_le_of_lt h1 (by have:=Ak' d;rw [Nat.pow_mul];exact this)
 exact Nat.le_of_lt ((Nat.pow_lt_pow_iff_right (by decide)).1 h2)
theorem D3' {d f r:Nat} (h:d=5^f*r) (h0:0<d):f≤16*len d:=by
 have hr:0<r:=by
   rcases Nat.eq_zero_or_pos r with e | e
   · rw [e,Nat.mul_zero] at h;omega
   · exact e
 have h1:5^f≤d:=by rw [h];exact Nat.le_mul_of_pos_right _ hr
 have h3:2^f≤5^f:=Nat.pow_le_pow_left (by decide) f
 have h2:2^f<2^(16*len d):=Nat.lt_of_le_of_lt (nT h3 h1) (by have:=Ak' d;rw [Nat.pow_mul];exact this)
 exact Nat.le_of_lt ((Nat.pow_lt_pow_iff_right (by decide)).1 h2)
theorem I4 (j:Nat):len (10^j)≤j+1 :=
 Av (Nat.lt_of_le_of_lt (Nat.pow_le_pow_left (show 10≤V by decide) j) (Nat.pow_lt_pow_right (by decide) (Nat.lt_succ_self j)))
theorem DO (n:Nat):(AB n).length≤5*len n+1:=by
 refine Gs ?_ (by omega)
 have h1:V^len n≤(10^5)^len n:=Nat.pow_le_pow_left (by decide) _
 rw [←Nat.pow_mul] at h1
 exact ltl (Ak' n) (nT h1 (Nat.pow_le_pow_right (by decide) (by omega)))
theorem Ei {w:World} {vx:Value} {x:Nat} {s:ByteArray} (h:s=⟨(AB x).toArray⟩) (hx:Ak w vx x) (sx:len x≤1048576):Calls Tryz.prog 132 #[vx] w (fun e w'=>e=.returned (.string s)∧Below w.heap.size w w'):=by
 rw [h];exact Fe' hx sx
def restT:Code→Code
  | .seq _ b=>b
  | c=>c
def IK (n:Nat) (fn:Func):Code:=Nat.repeat restT n (fn.body.getD .skip)
theorem Hk {w wB:World} {R:Nat} {sg:ByteArray} {n d t f c:Nat} {L:List UInt8} {vb vN vD:Value} {y0 y2 y7 y8 y9 y10 y11 y12 y13 y14 y15 y16 y17 y18 y19 y20 y21 y22 y23 y24 y25 y26 y27 y28 y29 y30 y31 y32 y33 y34 y35 y36 y37 y38 y39 y40 y41 y42 y43 y44 y45 y46 y47 y48 y49 y50 y51 y52 y53 y54 y55 y56 y57 y58 y59 y60 y61 y62 y63 y64 y65 y66 y67 y68 y69 y70 y71 y72 y73 y74 y75 y76 y77 y78 y79 y80 y81 y82 y83 y84 y85 y86 y87 y88 y89 y90 y91 y92 y93 y94 y95 y96 y97 y98 y99 y100:Value}
   (hL:C0' sg.data.toList n d=L) (hbl:Below w.heap.size w wB) (k1:wB.cell? ⟨R,1,none⟩=some vN) (k2:wB.cell? ⟨R,2,none⟩=some vD)
   (hN:Ak wB vN n) (hD:Ak wB vD d) (hb:Ak wB vb c) (hd:d=2^t*5^f*c) (hd0:0<d) (h2:c%2=1) (h5:c%5≠0) (sn:len n≤20000) (sd:len d≤20000) (sg1:sg.size≤1) :
   (IK 6 Tryz.f91).wp Tryz.prog (bodyPost Tryz.prog Tryz.f91 (A9' w L)) { tmps:=#[y0,.pointer (some ⟨R,0,none⟩),y2,.string sg,.int .i64 ((t:Nat):Int),.int .i64 ((f:Nat):Int),vb,y7,y8,y9,y10,y11,y12,y13,y14,y15,y16,y17,y18,y19,y20,y21,y22,y23,y24,y25,y26,y27,y28,y29,y30,y31,y32,y33,y34,y35,y36,y37,y38,y39,y40,y41,y42,y43,y44,y45,y46,y47,y48,y49,y50,y51,y52,y53,y54,y55,y56,y57,y58,y59,y60,y61,y62,y63,y64,y65,y66,y67,y68,y69,y70,y71,y72,y73,y74,y75,y76,y77,y78,y79,y80,y81,y82,y83,y84,y85,y86,y87,y88,y89,y90,y91,y92,y93,y94,y95,y96,y97,y98,y99,y100],defers:=[] } wB:=by
 obtain ⟨An,cn,rfl,-,-,-,-⟩:=id hN
 obtain ⟨Ad,cd,rfl,-,-,-,-⟩:=id hD
 obtain ⟨Ab,cb,rfl,-,-,-,-⟩:=id hb
 have hRlt:R<wB.heap.size:=bL _ _ k1
 have hc0:0<c:=by omega
 have hcd:c≤d:=by rw [hd];exact Nat.le_mul_of_pos_left _ (Nat.mul_pos (Nat.pow_pos (by decide)) (Nat.pow_pos (by decide)))
 have hlc:=Ah hcd
 have ht:=Ez' (r:=5^f*c) (by rw [hd,Nat.mul_assoc]) hd0
 have hf:=D3' (r:=2^t*c) (f:=f) (by rw [hd,Nat.mul_comm (2^t),Nat.mul_assoc]) hd0
 have HC:=hid (Bu' (hb.keep (Ag' wB (.cells #[.int .i64 1] 3))) (Cv wB) (by omega) (by rw [Bz' (by decide) (by decide)];decide))
 have ha1:=hid (Ag' wB (.cells #[.int .i64 1] 3))
 obtain ⟨lc,hlc2⟩:=eY (len c)
 obtain ⟨ln,hln⟩:=eY (len n)
 obtain ⟨ld,hld⟩:=eY (len d)
 by_cases hc1:c=1
 · obtain ⟨k,hk⟩:=eY (max t f)
   rw [Hj' hd h2 h5 hc1 hk] at hL
   subst hc1
   rw [BW'] at HC
   have hmx:max ((t:Nat):Int) ((f:Nat):Int)=((k:Nat):Int):=by omega
   have hk9:k≤320000:=by omega
   replace hL:=hid hL
   replace hN:=hid hN
   replace hD:=hid hD
   replace hk:=hid hk
   replace hld:=hid hld
   replace hln:=hid hln
   have hsn:=hid sn
   have hsd:=hid sd
   clear hb hd h2 h5 hc0 hcd hlc ht hf sn sd
   rw [hlc2] at HC ⊢
   rw [hld.out] at k2
   rw [hln.out] at k1
   clear hlc2
   show Code.wp _ (Code.seq _ _) _ _ _
   go_wp2_with fail
   refine (HC.out).mono ?_
   rintro e w1 ⟨rfl,rfl⟩
   clear HC
   have k1':(wB.alloc (.cells #[.int .i64 1] 3)).cell? ⟨R,1,none⟩=some (.slice An ln cn):=(ha1.out.cell (p:=⟨R,1,none⟩) hRlt).trans k1
   go_wp2_with fail
   go_loopw [10,11] (fun tv iv wr=>∃ j:Nat,j≤k∧iv=.int .i64 ((j:Nat):Int)∧Hid (Ak wr tv (n*10^j))∧Hid (Below wB.heap.size wB wr)) (fun _ iv _=>k - (intOf iv).toNat)
   case atStart=>exact ⟨0,Nat.zero_le _,rfl,hid (by rw [Nat.pow_zero,Nat.mul_one,←hln.out];exact hN.out.keep ha1.out),ha1⟩
   case round =>
     obtain ⟨j,hj,rfl,htv,hbr⟩:=hrel
     have hlj:len (n*10^j)≤340001:=by
       have h1:=Ap n (10^j)
       have h2:=I4 j
       have h3:=hsn.out
       omega
     rcases Nat.lt_or_ge j k with hjk | hjk
     · have HT:=hid (AX (w:=wr.alloc (.cells #[.int .i64 10] 3)) (htv.out.keep (Ag' wr _)) (CG' wr (show 10<65536 by decide) (by decide)) (by omega) (by rw [Bz' (by decide) (by decide)];decide))
       have ha3:=hid (Ag' wr (.cells #[.int .i64 10] 3))
       obtain ⟨At,ct,rfl,-,-,-,-⟩:=id htv.out
       rw [Nat.mul_assoc,←Nat.pow_succ] at HT
       obtain ⟨lj,hlj2⟩:=eY (len (n*10^j))
       rw [hlj2] at HT hlj ⊢
       clear hlj2
       go_wp2_with fail
       refine (HT.out).mono ?_
       rintro e w4 ⟨v4,rfl,hv4,b4⟩
       replace hv4:=hid hv4
       replace b4:=hid b4
       clear HT
       go_wp2_with fail
       go_roundw
       case rel=>exact ⟨j+1,by omega,by go_num,hv4,hid (chain hbr.out (chain ha3.out b4.out))⟩
       case measure=>simp [intOf];omega
     · obtain rfl:j=k:=by omega
       have k2':wr.cell? ⟨R,2,none⟩=some (.slice Ad ld cd):=(hbr.out.cell (p:=⟨R,2,none⟩) hRlt).trans k2
       have HQ:=hid (B6' htv.out (hD.out.keep hbr.out) hd0 (by omega) (by have:=hsd.out;omega))
       obtain ⟨T,hT⟩:=eY (n*10^j / d)
       have hlT:len T≤340001:=by rw [←hT];exact nT (Ah (Nat.div_le_self _ _)) hlj
       rw [hT] at HQ hL
       rw [hld.out] at HQ
       obtain ⟨At,ct,rfl,-,-,-,-⟩:=id htv.out
       obtain ⟨lj,hlj2⟩:=eY (len (n*10^j))
       rw [hlj2] at HQ hlj ⊢
       clear hlj2 hT
       go_wp2_with fail
       refine (HQ.out).mono ?_
       rintro e w4 ⟨v4,v5,rfl,hv4,hv5,b4⟩
       obtain ⟨A4,c4,rfl,-,-,-,-⟩:=id hv4
       obtain ⟨A5,c5,rfl,-,-,-,-⟩:=id hv5
       obtain ⟨s1,hs1⟩:=eX (⟨(AB T).toArray⟩:ByteArray)
       have HD1:=hid (Ei hs1 hv4 (by omega))
       have hb9:=hid (chain hbr.out b4)
       have hs1l:=hid (show s1.data.toList=AB T by rw [hs1])
       obtain ⟨lT,hlT2⟩:=eY (len T)
       obtain ⟨lm,hlm2⟩:=eY (len (n*10^j%d))
       have hdl:(AB T).length≤2785301:=by have:=DO T;omega
       have hdn:0<(AB T).length:=List.length_pos_iff.2 (Jm' T)
       obtain ⟨l,hl⟩:=eY (AB T)
       rw [hlT2] at HD1 ⊢
       rw [hlm2]
       rw [hl] at hdl hdn hs1l hL
       obtain ⟨G,hG⟩:=eY (j+1 - l.length)
       replace hG:=hid hG
       clear HQ hv4 hv5 b4 hlT2 hlm2 hl hs1 hlT hlj
       go_wp2_with fail
       refine (HD1.out).mono ?_
       rintro e w6 ⟨rfl,b6⟩
       replace hb9:=hid (chain hb9.out b6)
       clear HD1 b6
       go_wp2_with fail
       go_loopg [12] G (fun g dv wr=>∃ s:ByteArray,dv=.string s∧Hid (s.data.toList=List.replicate (G - g) 48++l)∧g≤G∧Hid (Below wB.heap.size wB wr))
       case atStart=>exact ⟨s1,rfl,hid (by rw [Nat.sub_self];exact hs1l.out),nL _,hb9⟩
       case round =>
         obtain ⟨s,rfl,hs,hgG,hbr2⟩:=hrel
         obtain ⟨X,hXg⟩:=eY gk
         rw [hXg] at hs hgG
         replace hXg:=hid hXg
         have hsz:s.size=G - X+l.length:=by
           have h1:s.data.toList.length=s.size:=Array.length_toList (xs:=s.data)
           rw [hs.out,List.length_append,List.length_replicate] at h1
           exact h1.symm
         have hszb:((s.size:Nat):Int)≤70368744177664:=by have:=hG.out;omega
         have hsgb:((sg.size:Nat):Int)≤70368744177664:=by omega
         rcases Nat.eq_zero_or_pos X with hX | hX
         · have z1:((j:Nat):Int)<((s.size:Nat):Int):=by have:=hG.out;omega
           have hs9:s.data.toList=List.replicate (j+1 - l.length) 48++l:=by rw [hs.out,hX,Nat.sub_zero,hG.out]
           replace hsz:=hid hsz
           rcases Nat.eq_zero_or_pos j with hj0 | hj0
           · have z2:(((j:Nat):Int)==0)=true:=by rw [beq_iff_eq];omega
             have e:=BI' (b:=sg++s) (l:=L) (by
               rw [AA,hs9,←hL.out,hj0,show 0+1 - l.length=0 by omega];rfl)
             replace e:=hid e
             replace hs9:=hid hs9
             replace hj0:=hid hj0
             clear hX
             go_wp2_with fail
             go_ret
             refine ⟨?_,chain hbl hbr2.out⟩
             rw [←e.out]
             rfl
           · have z2:(((j:Nat):Int)==0)=false:=by rw [beq_eq_false_iff_ne];omega
             have e0:=CA (p:=j) hs9 hj0 (by omega)
             have e:=BI' (b:=sg++s.extract 0 (s.size - j)++⟨#[46]⟩++s.extract (s.size - j) s.size) (l:=L) (by
               have e1:=congrArg (fun b:ByteArray=>b.data.toList) e0
               have e2:(s.extract 0 (s.size - j)++⟨#[46]⟩++s.extract (s.size - j) s.size).data.toList=AR' l j:=e1
               rw [←hL.out,←e2]
               simp only [AA,List.append_assoc])
             replace e:=hid e
             replace hs9:=hid hs9
             have z3:((s.size:Nat):Int) - ((j:Nat):Int)=((s.size - j:Nat):Int):=by omega
             have z4:s.size - j≤s.size:=Nat.sub_le _ _
             clear hX e0
             go_wp2_with fail
             go_quiet (fail)
             go_wp2_with fail
             go_ret
             refine ⟨?_,chain hbl (chain hbr2.out (Ai _ _))⟩
             rw [←e.out]
             rfl
         · have z1:((s.size:Nat):Int)≤((j:Nat):Int):=by have:=hG.out;omega
           replace hsz:=hid hsz
           go_wp2_with fail
           go_roundg (X - 1)
           case rel =>
             refine ⟨_,rfl,hid ?_,by omega,hbr2⟩
             rw [Ez,hs.out,show G - (X - 1)=(G - X)+1 by omega,List.replicate_succ];rfl
           case measure=>have:=hXg.out;omega
 · rw [Gs' hd h2 h5 hc1] at hL
   rw [BW (by omega)] at HC
   replace hL:=hid hL
   have hsn:=hid sn
   have hsd:=hid sd
   obtain ⟨s1,hs1⟩:=eX (⟨(AB n).toArray⟩:ByteArray)
   obtain ⟨s2,hs2⟩:=eX (⟨(AB d).toArray⟩:ByteArray)
   have q1:((s1.size:Nat):Int)≤70368744177664:=by
     have h1:s1.size=(AB n).length:=by rw [hs1];rfl
     have h2:=DO n
     omega
   have q2:((s2.size:Nat):Int)≤70368744177664:=by
     have h1:s2.size=(AB d).length:=by rw [hs2];rfl
     have h2:=DO d
     omega
   have q3:¬ (9223372036854775807<sg.size+s1.size):=by omega
   have q4:¬ (9223372036854775807<sg.size+s1.size+1):=by omega
   have q5:¬ (9223372036854775807<sg.size+s1.size+1+s2.size):=by omega
   have HF:=hid (BI' (b:=sg++s1++⟨#[47]⟩++s2) (l:=L) (by rw [AA,AA,AA,hs1,hs2,←hL.out];simp))
   replace hs1:=hid hs1
   replace hs2:=hid hs2
   obtain ⟨NN,hNN⟩:=eY wB.heap.size
   have hS:=hid (fun (u:World) (hu:Below wB.heap.size wB u) (b o:Nat) (hb:b<NN)=>hu.cell (p:=⟨b,o,none⟩) (by rw [hNN];exact hb))
   rw [hNN] at hRlt
   have b0:=hid (Below.drew1 ha1.out)
   obtain ⟨u0,hu0⟩:=eX ((wB.alloc (.cells #[.int .i64 1] 3)).drew)
   rw [←hu0] at b0
   have HD1:=hid (Ei hs1.out (hN.keep b0.out) (by omega))
   replace hN:=hid hN
   replace hD:=hid hD
   replace hbl:=hid hbl
   rw [hlc2] at HC ⊢
   rw [hld] at k2
   rw [hln] at k1 HD1
   clear hb hd h2 h5 hc0 hcd hlc ht hf sn sd sg1 hlc2 hNN hc1
   have hsn2:ln≤20000:=by rw [←hln];exact hsn.out
   have hsd2:ld≤20000:=by rw [←hld];exact hsd.out
   replace hld:=hid hld
   replace hln:=hid hln
   show Code.wp _ (Code.seq _ _) _ _ _
   go_wp2_with fail
   refine (HC.out).mono ?_
   rintro e w1 ⟨rfl,rfl⟩
   clear HC
   go_wp2_with fail
   refine wp_region_held_drew (S:=(fun w'=>(∀ b o,b<NN→w'.cell? ⟨b,o,none⟩=wB.cell? ⟨b,o,none⟩))) (by kernel_rfl) ?_ (fun hHeld=>?_)
   · (try dsimp only)
     rw [←hu0]
     exact hS.out _ b0.out
   rw [←hu0] at hHeld ⊢
   clear hu0
   refine tk (i:=0) (h:=?_)
   try simp only [Act.put,lt,ly,lu]
   refine tk (i:=1) (h:=?_)
   try simp only [Act.put,lt,ly,lu]
   refine tk (i:=2) (h:=?_)
   try simp only [Act.put,lt,ly,lu]
   refine tk (i:=6) (h:=?_)
   try simp only [Act.put,lt,ly,lu]
   refine tk (i:=7) (h:=?_)
   try simp only [Act.put,lt,ly,lu]
   refine rd (i:=3) (h:=fun K hK=>?_)
   go_simp;go_at_call 132
   refine (HD1.out).mono ?_
   rintro e u1 ⟨rfl,b1⟩
   refine hK.out _ _ ?_ (fun hHeld2=>?_)
   · (try dsimp only)
     exact hS.out _ (chain b0.out b1)
   clear hK K hHeld
   try simp only [Act.put,lt,ly,lu]
   have hHeld:=hHeld2
   clear hHeld2
   have hb1:=hid (chain b0.out b1)
   have HD2:=hid (Ei hs2.out (hD.out.keep hb1.out) (by have:=hsd.out;omega))
   rw [hld.out] at HD2
   clear HD1 b1
   refine tk (i:=4) (h:=?_)
   try simp only [Act.put,lt,ly,lu]
   refine tk (i:=5) (h:=?_)
   try simp only [Act.put,lt,ly,lu]
   refine rd (i:=8) (h:=fun K hK=>?_)
   go_simp;go_at_call 132
   refine (HD2.out).mono ?_
   rintro e u2 ⟨rfl,b2⟩
   refine hK.out _ _ ?_ (fun hHeld2=>?_)
   · (try dsimp only)
     exact hS.out _ (chain hb1.out b2)
   clear hK K hHeld
   try simp only [Act.put,lt,ly,lu]
   have hHeld:=hHeld2
   clear hHeld2
   refine tk (i:=9) (h:=?_)
   try simp only [Act.put,lt,ly,lu]
   refine tk (i:=10) (h:=?_)
   try simp only [Act.put,lt,ly,lu]
   refine wpAnyH_done (by kernel_rfl) ?_ _
   clear hHeld
   have hb2:=hid (chain hb1.out b2)
   clear HD2 b2 hS
   go_wp2_with fail
   go_ret
   refine ⟨?_,chain hbl.out hb2.out⟩
   rw [←HF.out]
   rfl
theorem Io {X f g:Nat} (h:X=5^f*g) (hX:X%2=1):g%2=1:=by
 rcases Nat.mod_two_eq_zero_or_one g with e | e
 · rw [h,Nat.mul_mod,e,Nat.mul_zero] at hX;cases hX
 · exact e
theorem FY' {X p g:Nat} (h:X=p*g) (h0:0<X):g≤X:=by
 rw [h]
 refine Nat.le_mul_of_pos_left _ ?_
 rcases Nat.eq_zero_or_pos p with e | e
 · rw [e,Nat.zero_mul] at h;omega
 · exact e
theorem Io' {d t g:Nat} (h:d=2^t*g) (he:g%2=0):d=2^(t+1)*(g / 2):=by
 rw [h,Nat.pow_succ,Nat.mul_assoc];congr 1;omega
theorem Hk' {d t g:Nat} (h:d=5^t*g) (he:g%5=0):d=5^(t+1)*(g / 5):=by
 rw [h,Nat.pow_succ,Nat.mul_assoc];congr 1;omega
theorem EA {w wB:World} {R:Nat} {sg:ByteArray} {n d:Nat} {L:List UInt8} {vN vD:Value} {y0 y2 y4 y5 y6 y7 y8 y9 y10 y11 y12 y13 y14 y15 y16 y17 y18 y19 y20 y21 y22 y23 y24 y25 y26 y27 y28 y29 y30 y31 y32 y33 y34 y35 y36 y37 y38 y39 y40 y41 y42 y43 y44 y45 y46 y47 y48 y49 y50 y51 y52 y53 y54 y55 y56 y57 y58 y59 y60 y61 y62 y63 y64 y65 y66 y67 y68 y69 y70 y71 y72 y73 y74 y75 y76 y77 y78 y79 y80 y81 y82 y83 y84 y85 y86 y87 y88 y89 y90 y91 y92 y93 y94 y95 y96 y97 y98 y99 y100:Value}
   (hL:C0' sg.data.toList n d=L) (hbl:Below w.heap.size w wB) (k1:wB.cell? ⟨R,1,none⟩=some vN) (k2:wB.cell? ⟨R,2,none⟩=some vD)
   (hN:Ak wB vN n) (hD:Ak wB vD d) (hd0:0<d) (sn:len n≤20000) (sd:len d≤20000) (sg1:sg.size≤1) :
   (IK 3 Tryz.f91).wp Tryz.prog (bodyPost Tryz.prog Tryz.f91 (A9' w L)) { tmps:=#[y0,.pointer (some ⟨R,0,none⟩),y2,.string sg,y4,y5,y6,y7,y8,y9,y10,y11,y12,y13,y14,y15,y16,y17,y18,y19,y20,y21,y22,y23,y24,y25,y26,y27,y28,y29,y30,y31,y32,y33,y34,y35,y36,y37,y38,y39,y40,y41,y42,y43,y44,y45,y46,y47,y48,y49,y50,y51,y52,y53,y54,y55,y56,y57,y58,y59,y60,y61,y62,y63,y64,y65,y66,y67,y68,y69,y70,y71,y72,y73,y74,y75,y76,y77,y78,y79,y80,y81,y82,y83,y84,y85,y86,y87,y88,y89,y90,y91,y92,y93,y94,y95,y96,y97,y98,y99,y100],defers:=[] } wB:=by
 have hRlt:R<wB.heap.size:=bL _ _ k1
 replace hL:=hid hL
 replace hbl:=hid hbl
 have hN2:=hid hN
 have hD2:=hid hD
 have hsn:=hid sn
 have hsd:=hid sd
 have hk1:=hid k1
 have hk2:=hid k2
 clear hN hD sn sd k1
 show Code.wp _ (Code.seq _ _) _ _ _
 go_wp2_with fail
 go_quiet (fail)
 go_wp2_with fail
 have bq:=hid (Ai wB nq)
 clear k2
 go_loopg [4,6] d (fun g tv bv wr=>∃ t:Nat,tv=.int .i64 ((t:Nat):Int)∧d=2^t*g∧0<g∧Hid (Ak wr bv g)∧Hid (Below wB.heap.size wB wr))
 case atStart=>exact ⟨0,rfl,by rw [Nat.pow_zero,Nat.one_mul],hd0,hid (hD2.out.keep bq.out),bq⟩
 case round =>
   obtain ⟨t,rfl,hg,hg0,hbv,hbr⟩:=hrel
   obtain ⟨X,hXg⟩:=eY gk
   rw [hXg] at hg hg0 hbv
   replace hXg:=hid hXg
   have ht:=Ez' hg hd0
   have hXd:=Ah (FY' hg hd0)
   obtain ⟨ga,oa,ca,da,ta,rfl,pa,ha1,ha2,ha3⟩:=hbv.out.low hg0
   have ht9:t≤320000:=by have:=hsd.out;omega
   have hX9:len X≤20000:=nT hXd hsd.out
   clear hXd ht
   rcases Nat.mod_two_eq_zero_or_one X with hev | hod
   · have z1:(((ta:Nat):Int)==0)=true:=by rw [beq_iff_eq];omega
     have HA:=hid (CB' hbv.out (by omega))
     have hg2:=hid (Io' hg hev)
     have hx2:0<X / 2∧X / 2<X:=by omega
     replace hg:=hid hg
     clear hev ha3
     go_wp2_with fail
     refine (HA.out).mono ?_
     rintro e w1 ⟨v1,rfl,hv1,b1⟩
     replace hv1:=hid hv1
     replace b1:=hid b1
     clear HA
     go_wp2_with fail
     go_roundg (X / 2)
     case rel=>exact ⟨t+1,by go_num,hg2.out,hx2.1,hv1,hid (chain hbr.out b1.out)⟩
     case measure=>have:=hXg.out;omega
   · have z1:(((ta:Nat):Int)==0)=false:=by rw [beq_eq_false_iff_ne];omega
     obtain ⟨lX,hlX⟩:=eY (len X)
     have hbr0:=hid hbr
     replace hg:=hid hg
     replace hod:=hid hod
     rw [hlX] at pa ⊢
     replace hlX:=hid hlX
     clear ha3
     go_wp2_with fail
     rename_i K6 hK6
     replace hK6:=hid hK6
     go_loopg [5,6] X (fun g fv bv wr=>∃ f:Nat,fv=.int .i64 ((f:Nat):Int)∧X=5^f*g∧0<g∧Hid (Ak wr bv g)∧Hid (Below wB.heap.size wB wr))
     case atStart=>exact ⟨0,rfl,by rw [Nat.pow_zero,Nat.one_mul],hg0,by rw [←hlX.out];exact hbv,hbr⟩
     case round =>
       obtain ⟨f,rfl,hgf,hgf0,hbvf,hbrf⟩:=hrel
       obtain ⟨Y,hYg⟩:=eY gk
       rw [hYg] at hgf hgf0 hbvf
       replace hYg:=hid hYg
       have hYX:=FY' hgf hg0
       have hYl:len Y≤20000:=nT (Ah hYX) hX9
       have hf:=D3' hgf hg0
       have hf9:f≤320000:=by omega
       obtain ⟨Ab,cb,rfl,-,-,-,-⟩:=id hbvf.out
       have HQ:=hid (B6' (w:=wr.alloc (.cells #[.int .i64 5] 3)) (hbvf.out.keep (Ag' wr _)) (CG' wr (show 5<65536 by decide) (by decide)) (by decide) (by omega) (by rw [Bz' (by decide) (by decide)];decide))
       have ha5:=hid (Ag' wr (.cells #[.int .i64 5] 3))
       obtain ⟨lY,hlY⟩:=eY (len Y)
       rw [hlY] at HQ ⊢
       replace hlY:=hid hlY
       clear hf hYX hX9
       rcases Nat.eq_zero_or_pos (Y%5) with h5 | h5
       · rw [h5] at HQ
         have hg2:=hid (Hk' hgf h5)
         have hy2:0<Y / 5∧Y / 5<Y:=by omega
         replace hgf:=hid hgf
         clear h5
         go_wp2_with fail
         refine (HQ.out).mono ?_
         rintro e w4 ⟨v4,v5,rfl,hv4,hv5,b4⟩
         obtain ⟨A5,c5,rfl,-,-,-,-⟩:=id hv5
         rw [Ax']
         replace hv4:=hid hv4
         replace b4:=hid b4
         clear HQ hv5
         go_wp2_with fail
         go_roundg (Y / 5)
         case rel=>exact ⟨f+1,by go_num,hg2.out,hy2.1,hv4,hid (chain hbrf.out (chain ha5.out b4.out))⟩
         case measure=>have:=hYg.out;omega
       · have h5n:Y%5≠0:=by omega
         have h5l:=Aj'.2 h5
         replace h5:=hid h5
         replace h5n:=hid h5n
         go_wp2_with fail
         refine (HQ.out).mono ?_
         rintro e w4 ⟨v4,v5,rfl,hv4,hv5,b4⟩
         obtain ⟨A5,c5,rfl,-,-,-,-⟩:=id hv5
         obtain ⟨A4,c4,rfl,-,-,-,-⟩:=id hv4
         have h5d:decide (0<len (Y%5))=true:=dT_ h5l
         have h5i:((len (Y%5):Nat):Int)>0:=by omega
         obtain ⟨l5,hl5⟩:=eY (len (Y%5))
         rw [hl5] at h5l h5d h5i ⊢
         have hB9:=hid (chain hbrf.out (chain ha5.out b4))
         have hbY:=hid ((hbvf.out.keep ha5.out).keep b4)
         have k1:=hid ((hB9.out.cell (p:=⟨R,1,none⟩) hRlt).trans hk1.out)
         have k2:=hid ((hB9.out.cell (p:=⟨R,2,none⟩) hRlt).trans hk2.out)
         have hYo:=hid (Io hgf hod.out)
         have hdd:=hid (show d=2^t*5^f*Y by rw [hg.out,hgf,Nat.mul_assoc])
         replace hgf:=hid hgf
         clear HQ hv4 hv5 b4 hl5
         go_wp2_with fail
         refine hK6.out _ _ ?_
         exact Hk hL.out (chain hbl.out hB9.out) k1.out k2.out (hN2.out.keep hB9.out) (hD2.out.keep hB9.out) (by rw [←hlY.out];exact hbY.out) hdd.out hd0 hYo.out h5n.out hsn.out hsd.out sg1
theorem Ip {w:World} {vx:Value} {q:Rat} (hx:Ah' w vx q) (sn:len q.num.natAbs≤20000) (sd:len q.den≤20000) :
   Calls Tryz.prog 91 #[vx] w (A9' w (AH q)):=by
 obtain ⟨A1,c1,A2,c2,rfl,h1,h2⟩:=hx.opened
 obtain ⟨L,hL⟩:=eY (AH q)
 rw [hL]
 rw [In'] at hL
 have hd0:0<q.den:=q.den_pos
 obtain ⟨n,hn⟩:=eY q.num.natAbs
 obtain ⟨d,hd⟩:=eY q.den
 have hneg:(if q.num<0 then [45] else []:List UInt8)=if decide (q.num<0)=true then [45] else []:=by
   by_cases h:q.num<0
   · rw [if_pos h,if_pos (dT_ h)]
   · rw [if_neg h,if_neg (by rw [dF_ h];decide)]
 rw [hneg] at hL
 obtain ⟨b,hb⟩:=eY (decide (q.num<0))
 rw [hn] at h1 hL sn
 rw [hd] at h2 hL sd hd0
 rw [hb] at hL
 rw [hn,hd,hb]
 clear hneg hb hn hd hx
 obtain ⟨n1,hn1⟩:=eY (len n)
 obtain ⟨n2,hn2⟩:=eY (len d)
 rw [hn1] at h1 ⊢
 rw [hn2] at h2 ⊢
 obtain ⟨R,hR⟩:=eY w.heap.size
 obtain ⟨wB,hwB⟩:=eX (w.alloc (.cells #[.bool b,.slice A1 n1 c1,.slice A2 n2 c2] 39))
 have b0:=Ag' w (.cells #[.bool b,.slice A1 n1 c1,.slice A2 n2 c2] 39)
 have gA:=hA_ w (.cells #[.bool b,.slice A1 n1 c1,.slice A2 n2 c2] 39)
 rw [←hwB] at b0 gA
 rw [hR] at gA
 obtain ⟨k0,k1,k2⟩:=Ab' gA
 have h1B:=hid (h1.keep b0)
 have h2B:=hid (h2.keep b0)
 have bB:=hid b0
 replace hL:=hid hL
 replace sn:=hid sn
 replace sd:=hid sd
 replace k1:=hid k1
 replace k2:=hid k2
 replace hn1:=hid hn1
 replace hn2:=hid hn2
 clear gA b0 h1 h2
 rcases b with _ | _
 all_goals
   go_enter Tryz.func91,Tryz.ntmps91
   go_upto_region 2 with fail
   rename_i G hG Gb hGb
   replace hG:=hid hG
   rw [←hwB]
   clear hwB
   go_wp2_with fail
   refine hG.out _ _ ?_
 · exact EA (sg:=⟨#[]⟩) hL.out bB.out k1.out k2.out h1B.out h2B.out hd0 (by have:=hn1.out;have:=sn.out;omega) (by have:=hn2.out;have:=sd.out;omega) (by decide)
 · exact EA (sg:=⟨#[45]⟩) hL.out bB.out k1.out k2.out h1B.out h2B.out hd0 (by have:=hn1.out;have:=sn.out;omega) (by have:=hn2.out;have:=sd.out;omega) (by decide)
theorem FZ (m:Nat) (b:Bool):rat b m 1=if b then -((m:Nat):Rat) else ((m:Nat):Rat):=by
 unfold rat
 rw [Rat.mkRat_one]
 cases b
 · simp;rfl
 · simp;rfl
theorem EA' {q:Rat} {b:Bool} {m:Nat} (h:rat b m 1=q):q.num.natAbs=m∧q.den=1∧decide (q.num<0)=(b && decide (0<m)):=by
 have:=Ey' (by decide) h
 rw [Nat.gcd_one_right,Nat.div_one] at this
 exact this
theorem FZ' {w:World} {m:Nat} {q:Rat} (hq:((m:Nat):Rat)=q) (hm:m<9223372036854775808) :
   Calls Tryz.prog 36 #[.int .i64 ((m:Nat):Int)] w (Bc w q):=by
 obtain ⟨p1,p2,p3⟩:=EA' (q:=q) (b:=false) (m:=m) (by rw [FZ];exact hq)
 rw [Bool.false_and] at p3
 obtain ⟨wB,hwB⟩:=eX (w.alloc (.cells #[.bool false,.slice none 0 0,.slice none 0 0] 39))
 have hRB:=RB.start w
 rw [←hwB] at hRB
 obtain ⟨R,hR⟩:=eY w.heap.size
 rw [hR] at hRB
 have v1:decide (((m:Nat):Int)<0)=false:=dF_ (by omega)
 have v2:IntKind.u64.wrap ((m:Nat):Int)=((m:Nat):Int):=by rw [IntKind.wrap_u64];omega
 have HO:=hid (Fd (w:=wB) (n:=m) (by omega))
 have v0:(0:Int)≤((m:Nat):Int):=by omega
 have v3:((m:Nat):Int)≤9223372036854775807:=by omega
 replace hRB:=hid hRB
 replace p1:=hid p1
 replace p2:=hid p2
 replace p3:=hid p3
 clear hq hm
 go_enter Tryz.func36,Tryz.ntmps36
 go_upto_region 1 with fail
 rw [←hwB]
 replace hR:=hid hR
 clear hwB
 go_wp2_with fail
 refine (HO.out).mono ?_
 rintro e w1 ⟨v,rfl,hv,b1⟩
 obtain ⟨A,c,rfl,-,-,-,-⟩:=id hv
 have hone:=hid (Cv w1)
 have b2:=Ag' w1 (.cells #[.int .i64 1] 3)
 have hRB2:=hid ((hRB.out.call b1).call b2)
 have hv2:=hid (hv.keep b2)
 clear hv b1 b2 hRB HO
 obtain ⟨hbF,⟨r0,r1,r2⟩,hkF⟩:=(hRB2.out).store (b:=false) (A:=A) (n:=len m) (c:=c) (A':=some ⟨w1.heap.size,0,none⟩) (n':=1) (c':=1) _ rfl
 obtain ⟨u0,u1,u2,⟨k0,k1,k2⟩,f0,f1,f2⟩:=(hRB2.out).cells
 have F:=hid (show Ah' _ (.agg #[.bool false,.slice A (len m) c,.slice (some ⟨w1.heap.size,0,none⟩) 1 1]) q from ⟨_,_,by rw [p3.out],by rw [p1.out];exact hkF _ _ hv2.out,by rw [p2.out];exact hkF _ _ hone.out⟩)
 have FB:=hid hbF
 clear hbF hkF
 go_wp2_with fail
 refine bP (v:=.agg #[.bool false,.slice A (len m) c,.slice (some ⟨w1.heap.size,0,none⟩) 1 1]) ?_ rfl ⟨_,rfl,F.out,by rw [hR.out];exact FB.out⟩
 simp [results,Tryz.results36,go_sem,r0,r1,r2]
def AX' (neg:Bool) (l:List UInt8):Option Rat :=
  if (Lib.cut l [47]).2.2=true then
    if Aq' (Lib.cut l [47]).1=true∧Aq' (Lib.cut l [47]).2.1=true∧(Lib.cut l [47]).2.1≠[48] then some (mkRat (Vx.sgn neg (valL (Lib.cut l [47]).1)) (valL (Lib.cut l [47]).2.1)) else none
  else
    if Aq' (Lib.cut l [46]).1=true∧((Lib.cut l [46]).2.2=true→AT (Lib.cut l [46]).2.1=true) then some (mkRat (Vx.sgn neg (valL ((Lib.cut l [46]).1++(Lib.cut l [46]).2.1))) (10^(Lib.cut l [46]).2.1.length)) else none
theorem Hl' (l:List UInt8):CN' l=AX' (Lib.hasPrefix l [45]) (Lib.trimPrefix l [45]):=rfl
theorem Hm {l:List UInt8} (h:Aq' l=true):l.all AH'=true:=AN' (AW' h)
theorem EB {l:List UInt8} {c:UInt8} (h:c∈l) (hc:AH' c=false):Aq' l=false∧AT l=false:=by
 have h1:¬ l.all AH'=true:=fun e=>by
   rw [List.all_eq_true] at e
   rw [e c h] at hc;cases hc
 constructor
 · rcases hw:Aq' l with _ | _
   · rfl
   · exact absurd (Hm hw) h1
 · rcases hw:AT l with _ | _
   · rfl
   · exact absurd (AN' hw) h1
theorem Hm' {b:List UInt8} {c:UInt8} (h:c∈b):∃ b1 b2,b=b1++c::b2∧c ∉ b1:=by
 induction b with
 | nil=>cases h
 | cons x b ih =>
   by_cases hx:x=c
   · subst hx;exact ⟨[],b,rfl,by simp⟩
   · rcases List.mem_cons.1 h with h1 | h1
     · exact absurd h1.symm hx
     · obtain ⟨b1,b2,e,hn⟩:=ih h1
       exact ⟨x::b1,b2,by rw [e];rfl,by simp [hn,Ne.symm hx]⟩
theorem EB' {neg:Bool} {p:List UInt8} (h6:(46:UInt8) ∉ p) (h7:(47:UInt8) ∉ p):AX' neg p=if Aq' p=true then some (mkRat (Vx.sgn neg (valL p)) 1) else none:=by
 have e1:=Ff' h7
 have e2:=Ff' h6
 unfold AX'
 rw [e1,e2]
 simp
theorem BR {neg:Bool} {p b:List UInt8} (h7:(47:UInt8) ∉ p):AX' neg (p++47::b)=if Aq' p=true∧Aq' b=true∧b≠[48] then some (mkRat (Vx.sgn neg (valL p)) (valL b)) else none:=by
 have e1:=FY (a:=p) (b:=b) h7
 rw [List.append_assoc] at e1
 unfold AX'
 rw [show p++47::b=p++([47]++b) from rfl,e1,if_pos rfl]
theorem Dl' {neg:Bool} {p b:List UInt8} (h6:(46:UInt8) ∉ p) (h7:(47:UInt8) ∉ p):AX' neg (p++46::b)=if Aq' p=true∧AT b=true then some (mkRat (Vx.sgn neg (valL (p++b))) (10^b.length)) else none:=by
 by_cases h:(47:UInt8)∈b
 · obtain ⟨b1,b2,rfl,hn⟩:=Hm' h
   have hb:=(EB h Hi').2
   have e0:p++46::(b1++47::b2)=(p++46::b1)++47::b2:=by simp
   rw [e0,BR (by simp [h7,hn]),hb]
   have:=(EB (l:=p++46::b1) (c:=46) (by simp) Hj).1
   rw [this]
   simp
 · have e1:=Ff' (a:=p++46::b) (c:=47) (by simp [h7,h])
   have e2:=FY (a:=p) (b:=b) h6
   rw [List.append_assoc] at e2
   unfold AX'
   rw [e1,show p++46::b=p++([46]++b) from rfl,e2]
   simp
theorem Bb' (l:List UInt8):Aq' l=(AT l && !(decide (1<l.length) && l.headD 0==48)):=by
 unfold Aq'
 rcases l with _ | ⟨c,_ | ⟨d,m⟩⟩
 · rfl
 · simp
   by_cases h:c=48 <;> simp [h]
 · simp
   rfl
theorem Ei' (l:List UInt8):(Aq' l=true∧l≠[48])↔(AT l=true∧(l.headD 0==48)=false):=by
 unfold Aq'
 constructor
 · rintro ⟨h1,h2⟩
   rw [Bool.and_eq_true,Bool.or_eq_true] at h1
   refine ⟨h1.1,?_⟩
   rcases h1.2 with h3 | h3
   · rw [bne_iff_ne] at h3;rw [beq_eq_false_iff_ne];exact h3
   · exact absurd (eq_of_beq h3) h2
 · rintro ⟨h1,h2⟩
   have h3:l≠[48]:=by intro e;rw [e] at h2;cases h2
   refine ⟨?_,h3⟩
   rw [h1,Bool.true_and,Bool.or_eq_true]
   left
   rw [bne_iff_ne]
   exact beq_eq_false_iff_ne.1 h2
theorem Ip' {l:List UInt8} (h:AT l=true∧(l.headD 0==48)=false):0<valL l:=by
 obtain ⟨h1,h2⟩:=(Ei' l).2 h
 exact Ex h1 h2
theorem Gt (a b:List UInt8):valL (a++b)=valL a*10^b.length+valL b:=by
 unfold valL
 rw [List.foldl_append]
 exact CG b _
def AB' (w:World) (q:Rat) (c:Int) (e:Ending) (w':World):Prop:=∃ v,e=.returned (.tuple #[v,.int .i64 c])∧Ah' w' v q∧Below w.heap.size w w'
theorem Bv {w:World}:Calls Tryz.prog 36 #[.int .i64 0] w (Bc w 0):=FZ' (m:=0) (by rfl) (by decide)
theorem CX' {w:World} {s:ByteArray} (h:2000<s.size) (hs:s.size≤1048576):Calls Tryz.prog 74 #[.string s] w (AB' w (Ap' s).1 (Ap' s).2):=by
 obtain ⟨q,c,hPV⟩:∃ q c,AB' w (Ap' s).1 (Ap' s).2=AB' w q c∧q=0∧c=5:=⟨0,5,by unfold Ap';rw [if_pos h],rfl,rfl⟩
 obtain ⟨hPV,rfl,rfl⟩:=hPV
 replace hPV:=hid hPV
 obtain ⟨P,hP⟩:=eY (AB' w (Ap' s).1 (Ap' s).2)
 rw [hP] at hPV ⊢
 clear hP
 have e1:((s.size:Nat):Int)>2000:=by omega
 have e2:decide (((s.size:Nat):Int)>2000)=true:=dT_ e1
 obtain ⟨wB,hwB⟩:=eX (w.alloc (.cells #[.bool false,.slice none 0 0,.slice none 0 0] 39))
 have hRB:=RB.start w
 have hbB:=Ag' w (.cells #[.bool false,.slice none 0 0,.slice none 0 0] 39)
 rw [←hwB] at hRB hbB
 obtain ⟨R,hR⟩:=eY w.heap.size
 rw [hR] at hRB
 replace hRB:=hid hRB
 replace hbB:=hid hbB
 go_enter Tryz.func74,Tryz.ntmps74
 go_upto_region 1 with fail
 rw [←hwB]
 replace hR:=hid hR
 clear hwB
 clear hbB h hs
 go_wp2_with fail
 refine (Bv).mono ?_
 rintro e wE ⟨vE,rfl,hvE,bE⟩
 obtain ⟨AE,cE,AF,cF,rfl,hE1,hE2⟩:=hvE.opened
 have hRBE:=hid (hRB.out.call bE)
 replace hE1:=hid hE1
 replace hE2:=hid hE2
 clear hvE bE hRB
 obtain ⟨sE,hsE⟩:=eY (decide ((0:Rat).num<0))
 obtain ⟨nE,hnE⟩:=eY (len (0:Rat).num.natAbs)
 obtain ⟨nF,hnF⟩:=eY (len (0:Rat).den)
 rw [hnE] at hE1 ⊢
 rw [hnF] at hE2 ⊢
 rw [hsE]
 obtain ⟨hbF,⟨r0,r1,r2⟩,hkF⟩:=(hRBE.out).store (b:=sE) (A:=AE) (n:=nE) (c:=cE) (A':=AF) (n':=nF) (c':=cF) _ rfl
 obtain ⟨u0,u1,u2,⟨k0,k1,k2⟩,f0,f1,f2⟩:=(hRBE.out).cells
 have FIN:=hid (show Ah' _ (.agg #[.bool sE,.slice AE nE cE,.slice AF nF cF]) (0:Rat) from ⟨_,_,by rw [hsE],hkF _ _ hE1.out,hkF _ _ hE2.out⟩)
 have FB:=hid hbF
 replace hsE:=hid hsE
 replace hnE:=hid hnE
 replace hnF:=hid hnF
 clear hbF hkF
 go_wp2_with fail
 refine bP (v:=.tuple #[.agg #[.bool sE,.slice AE nE cE,.slice AF nF cF],.int .i64 5]) ?_ rfl (by rw [hPV.out];exact ⟨_,rfl,FIN.out,by rw [hR.out];exact FB.out⟩)
 simp [results,Tryz.results74,go_sem,r0,r1,r2]
end Go.Proofs.YtbigkkjnhcpgiaaGreatDoor.Rf
