/-
  Contracts of the functions that the law calls, for every input (Rt).
-/
import Derived.Test.YtbigkkjnhcpgiaaGreatDoorQ00
import Derived.Test.YtbigkkjnhcpgiaaGreatDoorQ33
import Derived.Deep.LoopGhost
set_option linter.all false
set_option maxRecDepth 100000
set_option maxHeartbeats 40000000
namespace Go.Proofs.YtbigkkjnhcpgiaaGreatDoor.Rf
open Lib (hid)
open Go.RowKit
open Rx
def Fg (c:UInt8):Prop:=c=46∨c=47
theorem Dm {neg:Bool} {p r:List UInt8} (hp:∀ c∈p,¬ Fg c) (hw:Aq' p=false) (hr:r=[]∨∃ c b,Fg c∧r=c::b):AX' neg (p++r)=none:=by
 have h6:(46:UInt8) ∉ p:=fun h=>hp _ h (Or.inl rfl)
 have h7:(47:UInt8) ∉ p:=fun h=>hp _ h (Or.inr rfl)
 rcases hr with rfl | ⟨c,b,rfl | rfl,rfl⟩
 · rw [List.append_nil,EB' h6 h7,hw];rfl
 · rw [Dl' h6 h7,hw];simp
 · rw [BR h7,hw];simp
theorem at_nat {s:ByteArray} {k:Nat} (h:k<s.size) (c:UInt8):s[k]=c↔s[k].toNat=c.toNat:=by
 constructor
 · intro e;rw [e]
 · intro e;exact UInt8.toNat_inj.1 e
theorem CP {s:ByteArray} {k:Nat} (h:k<s.size):s.data.toList.drop k=s[k]::s.data.toList.drop (k+1):=by
 rw [List.drop_eq_getElem_cons (by rw [Array.length_toList];exact h)];rfl
theorem Ej {s:ByteArray} (h:0<s.size):s.data.toList.headD 0=s[0]:=by
 have:=CP h
 rw [List.drop_zero] at this
 rw [this];rfl
theorem Dm' {l:List UInt8} {k:Nat} (h:0<k):(l.take k).headD 0=l.headD 0:=by
 rcases k with _ | k
 · omega
 · cases l <;> rfl
theorem Iq (s:ByteArray):∃ (neg:Bool) (t:ByteArray),Lib.hasPrefix s.data.toList [45]=neg∧t.data.toList=Lib.trimPrefix s.data.toList [45]∧t.size≤s.size ∧
   ((neg=true∧∃ h:0<s.size,s[0].toNat=45∧s.extract 1 s.size=t)∨(neg=false∧t=s∧(s.size=0∨∃ h:0<s.size,s[0].toNat≠45))):=by
 rcases Nat.eq_zero_or_pos s.size with h0 | h0
 · have e:s.data.toList=[]:=List.length_eq_zero_iff.1 (by rw [Array.length_toList];exact h0)
   refine ⟨false,s,by rw [e];rfl,by rw [e];rfl,nL _,Or.inr ⟨rfl,rfl,Or.inl h0⟩⟩
 · have e:=CP h0
   rw [List.drop_zero] at e
   by_cases hc:s[0]=45
   · obtain ⟨p1,p2⟩:=Gr (s.data.toList.drop 1)
     rw [hc] at e
     have e2:s.data.toList=[45]++s.data.toList.drop 1:=e
     have e3:(s.extract 1 s.size).data.toList=s.data.toList.drop 1:=Lib.extract_to_end s 1
     refine ⟨true,s.extract 1 s.size,by rw [e2];exact p1,by rw [e3];rw [←e2] at p2;exact p2.symm,?_,Or.inl ⟨rfl,h0,by rw [hc];rfl,rfl⟩⟩
     have h1:(s.extract 1 s.size).data.toList.length=(s.extract 1 s.size).size:=Array.length_toList
     have h2:s.data.toList.length=s.size:=Array.length_toList
     rw [e3,List.length_drop] at h1
     omega
   · obtain ⟨p1,p2⟩:=Gr' e hc
     refine ⟨false,s,p1,p2.symm,nL _,Or.inr ⟨rfl,rfl,Or.inr ⟨h0,fun h=>hc ((at_nat h0 45).2 h)⟩⟩⟩
theorem B7' {w:World} {s:ByteArray} {l:List UInt8} {ok:Bool} (hl:s.data.toList=l) (ho:AT l=ok) (hs:s.size≤1048576) :
   Calls Tryz.prog 120 #[.string s] w (fun e w'=>∃ v,e=.returned (.tuple #[v,.bool ok])∧(ok=true→Ak w' v (valL l))∧Below w.heap.size w w'):=by
 rw [←ho,←hl];exact Bq' hs
def restOf:Code→Code
  | .seq _ b=>b
  | c=>c
def codeAt (n:Nat) (fn:Func):Code:=Nat.repeat restOf n (fn.body.getD .skip)
theorem C1' {w wB:World} {t:ByteArray} {l:List UInt8} {neg:Bool} {R:Nat} {PV:Ending→World→Prop} {y1 y3 y5 y6 y7 y8 y9 y10 y11 y12 y13 y14 y15 y16 y17 y18 y19 y20 y21 y22 y23 y24 y25 y26 y27 y28 y29 y30 y31 y32 y33 y34 y35 y36 y37 y38 y39 y40 y41 y42 y43 y44 y45 y46 y47 y48 y49 y50 y51 y52 y53 y54 y55 y56 y57 y58 y59 y60 y61 y62 y63 y64 y65 y66 y67 y68 y69 y70 y71 y72 y73 y74 y75 y76 y77 y78 y79 y80 y81 y82 y83 y84 y85 y86 y87 y88 y89 y90 y91 y92 y93 y94 y95 y96 y97 y98 y99 y100 y101 y102 y103 y104 y105 y106 y107 y108 y109 y110 y111 y112 y113 y114 y115 y116 y117 y118 y119 y120 y121 y122:Value} (et:t.size≤2000) (hl:t.data.toList=l) (hPV:PV=AB' w (match AX' neg l with | none=>((0:Rat),(4:Int)) | some q=>(q,0)).1 (match AX' neg l with | none=>((0:Rat),(4:Int)) | some q=>(q,0)).2) (hRB:RB w R wB) (hR:w.heap.size=R) :
   (codeAt 4 Tryz.f74).wp Tryz.prog (bodyPost Tryz.prog Tryz.f74 PV) { tmps:=#[.string t,y1,.pointer (some ⟨R,0,none⟩),y3,.bool neg,y5,y6,y7,y8,y9,y10,y11,y12,y13,y14,y15,y16,y17,y18,y19,y20,y21,y22,y23,y24,y25,y26,y27,y28,y29,y30,y31,y32,y33,y34,y35,y36,y37,y38,y39,y40,y41,y42,y43,y44,y45,y46,y47,y48,y49,y50,y51,y52,y53,y54,y55,y56,y57,y58,y59,y60,y61,y62,y63,y64,y65,y66,y67,y68,y69,y70,y71,y72,y73,y74,y75,y76,y77,y78,y79,y80,y81,y82,y83,y84,y85,y86,y87,y88,y89,y90,y91,y92,y93,y94,y95,y96,y97,y98,y99,y100,y101,y102,y103,y104,y105,y106,y107,y108,y109,y110,y111,y112,y113,y114,y115,y116,y117,y118,y119,y120,y121,y122],defers:=[] } wB:=by
 have hll:l.length=t.size:=by rw [←hl];exact Array.length_toList (xs:=t.data)
 replace hl:=hid hl
 replace hRB:=hid hRB
 replace hR:=hid hR
 replace hPV:=hid hPV
 show Code.wp _ (Code.seq _ _) _ _ _
 go_wp2_with fail
 go_loop [5] (fun iv=>∃ k:Nat,k≤t.size∧iv=.int .i64 ((k:Nat):Int)∧Hid (∀ c∈l.take k,¬ Fg c)) (fun iv=>t.size - (intOf iv).toNat)
 case atStart=>exact ⟨0,Nat.zero_le _,rfl,fun c hc=>by simp at hc⟩
 case round =>
   obtain ⟨k,hk,rfl,hns⟩:=hrel
   rcases Nat.lt_or_ge k t.size with hlt | hge
   · have hki:((k:Nat):Int)<((t.size:Nat):Int):=by omega
     have hdr:l.drop k=t[k]::l.drop (k+1):=by rw [←hl.out];exact CP hlt
     by_cases hSp:Fg t[k]
     · rcases hSp with hsp | hsp
       · have x1:t[k].toNat=46:=by rw [hsp];rfl
         have hSp:Fg t[k]:=Or.inl hsp
         have x2:(((t[k].toNat:Nat):Int) != 46)=false:=by rw [x1];rfl
         obtain ⟨p,hp⟩:=eY (t.extract 0 k)
         have hpl:p.data.toList=l.take k:=by rw [←hp,Lib.extract_data,List.drop_zero,hl.out];rfl
         have hps:p.size≤2000:=by
           have h1:p.data.toList.length=p.size:=Array.length_toList (xs:=p.data)
           rw [hpl,List.length_take] at h1;omega
         obtain ⟨okp,hokp⟩:=eY (AT (l.take k))
         have HD:=hid (B7' (w:=wB) hpl hokp (by omega))
         have hp2:=hid hp
         replace hpl:=hid hpl
         have h6:(46:UInt8) ∉ l.take k:=fun h=>hns.out _ h (Or.inl rfl)
         have h7:(47:UInt8) ∉ l.take k:=fun h=>hns.out _ h (Or.inr rfl)
         have hbad:Aq' (l.take k)=false→AX' neg l=none:=fun h=>by
           have:=Dm (neg:=neg) (r:=l.drop k) hns.out h (Or.inr ⟨_,_,hSp,hdr⟩)
           rwa [List.take_append_drop] at this
         replace hbad:=hid hbad
         go_wp2_with fail
         refine (HD.out).mono ?_
         rintro e w1 ⟨vx,rfl,hvx,b1⟩
         replace hvx:=hid hvx
         replace hRB:=hid (hRB.out.call b1)
         clear HD hp b1
         rcases okp with _ | _
         · have hT:=hbad.out (by rw [Bb',hokp];rfl)
           clear hvx h6 h7
           replace hPV:=hid (show PV=AB' w 0 4 by rw [hPV.out,hT])
           go_wp2_with fail
           refine (Bv).mono ?_
           rintro e wE ⟨vE,rfl,hvE,bE⟩
           obtain ⟨AE,cE,AF,cF,rfl,hE1,hE2⟩:=hvE.opened
           have hRBE:=hid (hRB.out.call bE)
           replace hE1:=hid hE1
           replace hE2:=hid hE2
           clear hvE bE hRB
           obtain ⟨sE,hsE⟩:=eY (decide ((0:Rat).num<0))
           obtain ⟨nE,hnE⟩:=eY (len (0:Rat).num.natAbs)
           obtain ⟨nF,hnF⟩:=eY (len (0:Rat).den)
           rw [hnE] at hE1 ⊢
           rw [hnF] at hE2 ⊢
           rw [hsE]
           obtain ⟨hbF,⟨r0,r1,r2⟩,hkF⟩:=(hRBE.out).store (b:=sE) (A:=AE) (n:=nE) (c:=cE) (A':=AF) (n':=nF) (c':=cF) _ rfl
           obtain ⟨u0,u1,u2,⟨k0,k1,k2⟩,f0,f1,f2⟩:=(hRBE.out).cells
           have FIN:=hid (show Ah' _ (.agg #[.bool sE,.slice AE nE cE,.slice AF nF cF]) (0:Rat) from ⟨_,_,by rw [hsE],hkF _ _ hE1.out,hkF _ _ hE2.out⟩)
           have FB:=hid hbF
           replace hsE:=hid hsE
           replace hnE:=hid hnE
           replace hnF:=hid hnF
           clear hbF hkF
           go_wp2_with fail
           refine bP (v:=.tuple #[.agg #[.bool sE,.slice AE nE cE,.slice AF nF cF],.int .i64 4]) ?_ rfl (by rw [hPV.out];exact ⟨_,rfl,FIN.out,by rw [hR.out];exact FB.out⟩)
           simp [results,Tryz.results74,go_sem,r0,r1,r2]
         · replace hvx:=hid (hvx.out rfl)
           have hk0:0<k:=by
             rcases Nat.eq_zero_or_pos k with h | h
             · rw [h] at hokp;cases hokp
             · exact h
           have ht0:0<t.size:=by omega
           have ht1:(0:Int)<((t.size:Nat):Int):=by omega
           have hlx:len (valL (l.take k))≤2000:=nT (Cv' (AN' hokp)) (by rw [List.length_take];omega)
           have hhd0:(l.take k).headD 0=t[0]:=by rw [Dm' hk0,←hl.out,Ej ht0]
           have hlen0:(l.take k).length=k:=by rw [List.length_take];omega
           have hthree:(1<k∧t[0].toNat=48)∨(Aq' (l.take k)=true∧((1<k∧t[0].toNat≠48)∨k≤1)):=by
             by_cases h1:1<k
             · by_cases h2:t[0].toNat=48
               · exact Or.inl ⟨h1,h2⟩
               · refine Or.inr ⟨?_,Or.inl ⟨h1,h2⟩⟩
                 rw [Bb',hokp,hhd0]
                 have:(t[0]==48)=false:=by rw [beq_eq_false_iff_ne];exact fun h=>h2 ((at_nat ht0 48).1 h)
                 rw [this];simp
             · refine Or.inr ⟨?_,Or.inr (by omega)⟩
               rw [Bb',hokp,hlen0]
               simp [h1]
           rcases hthree with ⟨y1,y2⟩ | ⟨hwh,hy⟩
           · have hT:=hbad.out (by rw [Bb',hokp,hhd0,hlen0,(at_nat ht0 48).2 y2];simp [y1])
             have y3:decide (((k:Nat):Int)>1)=true:=dT_ (by omega)
             have y5:(((t[0].toNat:Nat):Int)==48)=true:=by rw [beq_iff_eq];omega
             clear hvx h6 h7 hhd0 y2
             replace hPV:=hid (show PV=AB' w 0 4 by rw [hPV.out,hT])
             go_wp2_with fail
             refine (Bv).mono ?_
             rintro e wE ⟨vE,rfl,hvE,bE⟩
             obtain ⟨AE,cE,AF,cF,rfl,hE1,hE2⟩:=hvE.opened
             have hRBE:=hid (hRB.out.call bE)
             replace hE1:=hid hE1
             replace hE2:=hid hE2
             clear hvE bE hRB
             obtain ⟨sE,hsE⟩:=eY (decide ((0:Rat).num<0))
             obtain ⟨nE,hnE⟩:=eY (len (0:Rat).num.natAbs)
             obtain ⟨nF,hnF⟩:=eY (len (0:Rat).den)
             rw [hnE] at hE1 ⊢
             rw [hnF] at hE2 ⊢
             rw [hsE]
             obtain ⟨hbF,⟨r0,r1,r2⟩,hkF⟩:=(hRBE.out).store (b:=sE) (A:=AE) (n:=nE) (c:=cE) (A':=AF) (n':=nF) (c':=cF) _ rfl
             obtain ⟨u0,u1,u2,⟨k0,k1,k2⟩,f0,f1,f2⟩:=(hRBE.out).cells
             have FIN:=hid (show Ah' _ (.agg #[.bool sE,.slice AE nE cE,.slice AF nF cF]) (0:Rat) from ⟨_,_,by rw [hsE],hkF _ _ hE1.out,hkF _ _ hE2.out⟩)
             have FB:=hid hbF
             replace hsE:=hid hsE
             replace hnE:=hid hnE
             replace hnF:=hid hnF
             clear hbF hkF
             go_wp2_with fail
             refine bP (v:=.tuple #[.agg #[.bool sE,.slice AE nE cE,.slice AF nF cF],.int .i64 4]) ?_ rfl (by rw [hPV.out];exact ⟨_,rfl,FIN.out,by rw [hR.out];exact FB.out⟩)
             simp [results,Tryz.results74,go_sem,r0,r1,r2]
           · rcases hy with ⟨y1,y2⟩ | y1
             all_goals
               first | (have y5:(((t[0].toNat:Nat):Int)==48)=false:=by rw [beq_eq_false_iff_ne];omega) | skip
               first | (have y3:decide (((k:Nat):Int)>1)=true:=dT_ (by omega)) | (have y3:decide (((k:Nat):Int)>1)=false:=dF_ (by omega))
               clear hhd0 hbad
               try clear y2
               have hl2:l=l.take k++46::l.drop (k+1):=by rw [←hsp,←hdr,List.take_append_drop]
               obtain ⟨b,hb⟩:=eY (t.extract (k+1) t.size)
               have hbl:b.data.toList=l.drop (k+1):=by rw [←hb,Lib.extract_to_end,hl.out]
               have hbs:b.size≤2000:=by
                 have h1:b.data.toList.length=b.size:=Array.length_toList (xs:=b.data)
                 rw [hbl,List.length_drop] at h1;omega
               obtain ⟨m,hm⟩:=eY (l.drop (k+1))
               rw [hm] at hbl hl2
               have hml:m.length=t.size - (k+1):=by rw [←hm,List.length_drop];omega
               obtain ⟨okb,hok⟩:=eY (AT m)
               have HD:=hid (B7' (w:=w1) hbl hok (by omega))
               have z1:(((k:Nat):Int)==((t.size:Nat):Int))=false:=by rw [beq_eq_false_iff_ne];omega
               have z2:((k:Nat):Int)+1≤((t.size:Nat):Int):=by omega
               have z3:(((t[k].toNat:Nat):Int)==47)=false:=by rw [beq_eq_false_iff_ne];omega
               replace hb2:=hid hb
               replace hbl:=hid hbl
               replace hm:=hid hm
               go_wp2_with fail
               refine (HD.out).mono ?_
               rintro e w2 ⟨vy,rfl,hvy,b2⟩
               replace hvy:=hid hvy
               replace hRB:=hid (hRB.out.call b2)
               replace hvx:=hid (hvx.out.keep b2)
               replace b2:=hid b2
               clear HD
               rcases okb with _ | _
               · have hT:AX' neg l=none:=by
                   rw [hl2,Dl' h6 h7,if_neg]
                   intro h
                   have:=h.2;rw [hok] at this;cases this
                 clear hwh h6 h7 hvx hvy
                 replace hPV:=hid (show PV=AB' w 0 4 by rw [hPV.out,hT])
                 go_wp2_with fail
                 refine (Bv).mono ?_
                 rintro e wE ⟨vE,rfl,hvE,bE⟩
                 obtain ⟨AE,cE,AF,cF,rfl,hE1,hE2⟩:=hvE.opened
                 have hRBE:=hid (hRB.out.call bE)
                 replace hE1:=hid hE1
                 replace hE2:=hid hE2
                 clear hvE bE hRB
                 obtain ⟨sE,hsE⟩:=eY (decide ((0:Rat).num<0))
                 obtain ⟨nE,hnE⟩:=eY (len (0:Rat).num.natAbs)
                 obtain ⟨nF,hnF⟩:=eY (len (0:Rat).den)
                 rw [hnE] at hE1 ⊢
                 rw [hnF] at hE2 ⊢
                 rw [hsE]
                 obtain ⟨hbF,⟨r0,r1,r2⟩,hkF⟩:=(hRBE.out).store (b:=sE) (A:=AE) (n:=nE) (c:=cE) (A':=AF) (n':=nF) (c':=cF) _ rfl
                 obtain ⟨u0,u1,u2,⟨k0,k1,k2⟩,f0,f1,f2⟩:=(hRBE.out).cells
                 have FIN:=hid (show Ah' _ (.agg #[.bool sE,.slice AE nE cE,.slice AF nF cF]) (0:Rat) from ⟨_,_,by rw [hsE],hkF _ _ hE1.out,hkF _ _ hE2.out⟩)
                 have FB:=hid hbF
                 replace hsE:=hid hsE
                 replace hnE:=hid hnE
                 replace hnF:=hid hnF
                 clear hbF hkF
                 go_wp2_with fail
                 refine bP (v:=.tuple #[.agg #[.bool sE,.slice AE nE cE,.slice AF nF cF],.int .i64 4]) ?_ rfl (by rw [hPV.out];exact ⟨_,rfl,FIN.out,by rw [hR.out];exact FB.out⟩)
                 simp [results,Tryz.results74,go_sem,r0,r1,r2]
               · replace hvy:=hid (hvy.out rfl)
                 have hm0:0<m.length:=by
                   rcases m with _ | ⟨x,m⟩
                   · cases hok
                   · simp
                 have z4:k+1<t.size:=by omega
                 have z5:((k:Nat):Int)+1<((t.size:Nat):Int):=by omega
                 have hly:len (valL m)≤2000:=nT (Cv' (AN' hok)) (by omega)
                 have hhd:m.headD 0=t[k+1]:=by
                   rw [←hm.out,←hl.out,CP z4];rfl
                 have hT:AX' neg l=some (rat neg (valL (l.take k)*10^m.length+valL m) (10^m.length)):=by
                   rw [hl2,Dl' h6 h7,if_pos ⟨hwh,hok⟩,←hl2,Gt];rfl
                 obtain ⟨Q,hQ⟩:=eY (rat neg (valL (l.take k)*10^m.length+valL m) (10^m.length))
                 rw [hQ] at hT
                 replace hPV:=hid (show PV=AB' w Q 0 by rw [hPV.out,hT])
                 obtain ⟨Ax,cx,rfl,-,-,-,-⟩:=id hvx.out
                 obtain ⟨Ay,cy,rfl,-,-,-,-⟩:=id hvy.out
                 obtain ⟨X,hX⟩:=eY (valL (l.take k))
                 obtain ⟨Y,hY⟩:=eY (valL m)
                 rw [hX] at hvx hlx hQ ⊢
                 rw [hY] at hvy hly hQ ⊢
                 obtain ⟨n,hn⟩:=eY m.length
                 rw [hn] at hml hm0 hQ
                 replace hQ:=hid hQ
                 clear hT hwh h6 h7 hhd hX hY
                 have hone:=hid (Cv w2)
                 have ha2:=hid (Ag' w2 (.cells #[.int .i64 1] 3))
                 go_wp2_with fail
                 go_loopw [9,10] (fun tv iv wr=>∃ j:Nat,j≤n∧iv=.int .i64 ((k+1+j:Nat):Int)∧Hid (Ak wr tv (10^j))∧Hid (Below w2.heap.size w2 wr)) (fun _ iv _=>t.size - (intOf iv).toNat)
                 case atStart=>exact ⟨0,Nat.zero_le _,by go_num,hone.out,ha2.out⟩
                 case round =>
                   obtain ⟨j,hj,rfl,htv,hbr⟩:=hrel
                   obtain ⟨i,hi⟩:=eY (k+1+j)
                   rw [hi]
                   have hl10:len (10^j)≤2001:=nT (Av (Nat.lt_of_le_of_lt (Nat.pow_le_pow_left (show 10≤V by decide) j) (Nat.pow_lt_pow_right (by decide) (Nat.lt_succ_self j)))) (by omega)
                   rcases Nat.lt_or_ge i t.size with hil | hil
                   · have HT:=hid (AX (w:=wr.alloc (.cells #[.int .i64 10] 3)) (htv.out.keep (Ag' wr _)) (CG' wr (show 10<65536 by decide) (by decide)) (by omega) (by rw [Bz' (by decide) (by decide)];decide))
                     have ha3:=hid (Ag' wr (.cells #[.int .i64 10] 3))
                     obtain ⟨At,ct,rfl,-,-,-,-⟩:=id htv.out
                     rw [←Nat.pow_succ] at HT
                     replace hi:=hid hi
                     go_wp2_with fail
                     refine (HT.out).mono ?_
                     rintro e w4 ⟨v4,rfl,hv4,b4⟩
                     replace hv4:=hid hv4
                     replace b4:=hid b4
                     clear HT
                     go_wp2_with fail
                     go_roundw
                     case rel=>exact ⟨j+1,by have:=hi.out;omega,by have:=hi.out;rw [show k+1+(j+1)=i+1 by omega];go_num,hv4,hid (chain hbr.out (chain ha3.out b4.out))⟩
                     case measure=>simp [intOf];omega
                   · have hjn:j=n:=by omega
                     have hit:i=t.size:=by omega
                     subst hjn
                     subst hit
                     have HT:=hid (AX (hvx.out.keep hbr.out) htv.out (by omega) (by omega))
                     have hs1:len (X*10^j)≤1099511627776:=nT (Ap _ _) (by omega)
                     have hs2:len (X*10^j+Y)≤68719476736:=by
                       have h1:=Bc' (X*10^j) Y
                       have h2:=Ap X (10^j)
                       omega
                     have hp10:0<10^j:=Nat.pow_pos (by decide)
                     obtain ⟨At,ct,rfl,-,-,-,-⟩:=id htv.out
                     replace hs1:=hid hs1
                     replace hs2:=hid hs2
                     replace hp10:=hid hp10
                     obtain ⟨TT,hTT⟩:=eY (10^j)
                     rw [hTT] at HT hs1 hs2 hp10 htv hQ hl10 ⊢
                     go_wp2_with fail
                     refine (HT.out).mono ?_
                     rintro e w4 ⟨v4,rfl,hv4,b4⟩
                     obtain ⟨A4,c4,rfl,-,-,-,-⟩:=id hv4
                     have HP:=hid (DN hv4 ((hvy.out.keep hbr.out).keep b4) hs1.out (by omega))
                     replace b4:=hid b4
                     clear HT hv4
                     go_wp2_with fail
                     refine (HP.out).mono ?_
                     rintro e w5 ⟨v5,rfl,hv5,b5⟩
                     obtain ⟨A5,c5,rfl,-,-,-,-⟩:=id hv5
                     have HM:=hid (BK hQ.out hv5 ((htv.out.keep b4.out).keep b5) hp10.out hs2.out (by omega))
                     replace hRB:=hid ((((hRB.out.call hbr.out).call b4.out).call b5))
                     clear HP hv5 b5
                     go_wp2_with fail
                     refine (HM.out).mono ?_
                     rintro e wE ⟨vE,rfl,hvE,bE⟩
                     obtain ⟨AE,cE,AF,cF,rfl,hE1,hE2⟩:=hvE.opened
                     have hRBE:=hid (hRB.out.call bE)
                     replace hE1:=hid hE1
                     replace hE2:=hid hE2
                     clear hvE bE hRB
                     obtain ⟨sE,hsE⟩:=eY (decide (Q.num<0))
                     obtain ⟨nE,hnE⟩:=eY (len Q.num.natAbs)
                     obtain ⟨nF,hnF⟩:=eY (len Q.den)
                     rw [hnE] at hE1 ⊢
                     rw [hnF] at hE2 ⊢
                     rw [hsE]
                     obtain ⟨hbF,⟨r0,r1,r2⟩,hkF⟩:=(hRBE.out).store (b:=sE) (A:=AE) (n:=nE) (c:=cE) (A':=AF) (n':=nF) (c':=cF) _ rfl
                     obtain ⟨u0,u1,u2,⟨k0,k1,k2⟩,f0,f1,f2⟩:=(hRBE.out).cells
                     have FIN:=hid (show Ah' _ (.agg #[.bool sE,.slice AE nE cE,.slice AF nF cF]) Q from ⟨_,_,by rw [hsE],hkF _ _ hE1.out,hkF _ _ hE2.out⟩)
                     have FB:=hid hbF
                     replace hsE:=hid hsE
                     replace hnE:=hid hnE
                     replace hnF:=hid hnF
                     clear hbF hkF
                     go_wp2_with fail
                     refine bP (v:=.tuple #[.agg #[.bool sE,.slice AE nE cE,.slice AF nF cF],.int .i64 0]) ?_ rfl (by rw [hPV.out];exact ⟨_,rfl,FIN.out,by rw [hR.out];exact FB.out⟩)
                     simp [results,Tryz.results74,go_sem,r0,r1,r2]
       · have x1:t[k].toNat=47:=by rw [hsp];rfl
         have hSp:Fg t[k]:=Or.inr hsp
         have x2:(((t[k].toNat:Nat):Int) != 46)=true:=by rw [x1];rfl
         have x3:(((t[k].toNat:Nat):Int) != 47)=false:=by rw [x1];rfl
         obtain ⟨p,hp⟩:=eY (t.extract 0 k)
         have hpl:p.data.toList=l.take k:=by rw [←hp,Lib.extract_data,List.drop_zero,hl.out];rfl
         have hps:p.size≤2000:=by
           have h1:p.data.toList.length=p.size:=Array.length_toList (xs:=p.data)
           rw [hpl,List.length_take] at h1;omega
         obtain ⟨okp,hokp⟩:=eY (AT (l.take k))
         have HD:=hid (B7' (w:=wB) hpl hokp (by omega))
         have hp2:=hid hp
         replace hpl:=hid hpl
         have h6:(46:UInt8) ∉ l.take k:=fun h=>hns.out _ h (Or.inl rfl)
         have h7:(47:UInt8) ∉ l.take k:=fun h=>hns.out _ h (Or.inr rfl)
         have hbad:Aq' (l.take k)=false→AX' neg l=none:=fun h=>by
           have:=Dm (neg:=neg) (r:=l.drop k) hns.out h (Or.inr ⟨_,_,hSp,hdr⟩)
           rwa [List.take_append_drop] at this
         replace hbad:=hid hbad
         go_wp2_with fail
         refine (HD.out).mono ?_
         rintro e w1 ⟨vx,rfl,hvx,b1⟩
         replace hvx:=hid hvx
         replace hRB:=hid (hRB.out.call b1)
         clear HD hp b1
         rcases okp with _ | _
         · have hT:=hbad.out (by rw [Bb',hokp];rfl)
           clear hvx h6 h7
           replace hPV:=hid (show PV=AB' w 0 4 by rw [hPV.out,hT])
           go_wp2_with fail
           refine (Bv).mono ?_
           rintro e wE ⟨vE,rfl,hvE,bE⟩
           obtain ⟨AE,cE,AF,cF,rfl,hE1,hE2⟩:=hvE.opened
           have hRBE:=hid (hRB.out.call bE)
           replace hE1:=hid hE1
           replace hE2:=hid hE2
           clear hvE bE hRB
           obtain ⟨sE,hsE⟩:=eY (decide ((0:Rat).num<0))
           obtain ⟨nE,hnE⟩:=eY (len (0:Rat).num.natAbs)
           obtain ⟨nF,hnF⟩:=eY (len (0:Rat).den)
           rw [hnE] at hE1 ⊢
           rw [hnF] at hE2 ⊢
           rw [hsE]
           obtain ⟨hbF,⟨r0,r1,r2⟩,hkF⟩:=(hRBE.out).store (b:=sE) (A:=AE) (n:=nE) (c:=cE) (A':=AF) (n':=nF) (c':=cF) _ rfl
           obtain ⟨u0,u1,u2,⟨k0,k1,k2⟩,f0,f1,f2⟩:=(hRBE.out).cells
           have FIN:=hid (show Ah' _ (.agg #[.bool sE,.slice AE nE cE,.slice AF nF cF]) (0:Rat) from ⟨_,_,by rw [hsE],hkF _ _ hE1.out,hkF _ _ hE2.out⟩)
           have FB:=hid hbF
           replace hsE:=hid hsE
           replace hnE:=hid hnE
           replace hnF:=hid hnF
           clear hbF hkF
           go_wp2_with fail
           refine bP (v:=.tuple #[.agg #[.bool sE,.slice AE nE cE,.slice AF nF cF],.int .i64 4]) ?_ rfl (by rw [hPV.out];exact ⟨_,rfl,FIN.out,by rw [hR.out];exact FB.out⟩)
           simp [results,Tryz.results74,go_sem,r0,r1,r2]
         · replace hvx:=hid (hvx.out rfl)
           have hk0:0<k:=by
             rcases Nat.eq_zero_or_pos k with h | h
             · rw [h] at hokp;cases hokp
             · exact h
           have ht0:0<t.size:=by omega
           have ht1:(0:Int)<((t.size:Nat):Int):=by omega
           have hlx:len (valL (l.take k))≤2000:=nT (Cv' (AN' hokp)) (by rw [List.length_take];omega)
           have hhd0:(l.take k).headD 0=t[0]:=by rw [Dm' hk0,←hl.out,Ej ht0]
           have hlen0:(l.take k).length=k:=by rw [List.length_take];omega
           have hthree:(1<k∧t[0].toNat=48)∨(Aq' (l.take k)=true∧((1<k∧t[0].toNat≠48)∨k≤1)):=by
             by_cases h1:1<k
             · by_cases h2:t[0].toNat=48
               · exact Or.inl ⟨h1,h2⟩
               · refine Or.inr ⟨?_,Or.inl ⟨h1,h2⟩⟩
                 rw [Bb',hokp,hhd0]
                 have:(t[0]==48)=false:=by rw [beq_eq_false_iff_ne];exact fun h=>h2 ((at_nat ht0 48).1 h)
                 rw [this];simp
             · refine Or.inr ⟨?_,Or.inr (by omega)⟩
               rw [Bb',hokp,hlen0]
               simp [h1]
           rcases hthree with ⟨y1,y2⟩ | ⟨hwh,hy⟩
           · have hT:=hbad.out (by rw [Bb',hokp,hhd0,hlen0,(at_nat ht0 48).2 y2];simp [y1])
             have y3:decide (((k:Nat):Int)>1)=true:=dT_ (by omega)
             have y5:(((t[0].toNat:Nat):Int)==48)=true:=by rw [beq_iff_eq];omega
             clear hvx h6 h7 hhd0 y2
             replace hPV:=hid (show PV=AB' w 0 4 by rw [hPV.out,hT])
             go_wp2_with fail
             refine (Bv).mono ?_
             rintro e wE ⟨vE,rfl,hvE,bE⟩
             obtain ⟨AE,cE,AF,cF,rfl,hE1,hE2⟩:=hvE.opened
             have hRBE:=hid (hRB.out.call bE)
             replace hE1:=hid hE1
             replace hE2:=hid hE2
             clear hvE bE hRB
             obtain ⟨sE,hsE⟩:=eY (decide ((0:Rat).num<0))
             obtain ⟨nE,hnE⟩:=eY (len (0:Rat).num.natAbs)
             obtain ⟨nF,hnF⟩:=eY (len (0:Rat).den)
             rw [hnE] at hE1 ⊢
             rw [hnF] at hE2 ⊢
             rw [hsE]
             obtain ⟨hbF,⟨r0,r1,r2⟩,hkF⟩:=(hRBE.out).store (b:=sE) (A:=AE) (n:=nE) (c:=cE) (A':=AF) (n':=nF) (c':=cF) _ rfl
             obtain ⟨u0,u1,u2,⟨k0,k1,k2⟩,f0,f1,f2⟩:=(hRBE.out).cells
             have FIN:=hid (show Ah' _ (.agg #[.bool sE,.slice AE nE cE,.slice AF nF cF]) (0:Rat) from ⟨_,_,by rw [hsE],hkF _ _ hE1.out,hkF _ _ hE2.out⟩)
             have FB:=hid hbF
             replace hsE:=hid hsE
             replace hnE:=hid hnE
             replace hnF:=hid hnF
             clear hbF hkF
             go_wp2_with fail
             refine bP (v:=.tuple #[.agg #[.bool sE,.slice AE nE cE,.slice AF nF cF],.int .i64 4]) ?_ rfl (by rw [hPV.out];exact ⟨_,rfl,FIN.out,by rw [hR.out];exact FB.out⟩)
             simp [results,Tryz.results74,go_sem,r0,r1,r2]
           · rcases hy with ⟨y1,y2⟩ | y1
             all_goals
               first | (have y5:(((t[0].toNat:Nat):Int)==48)=false:=by rw [beq_eq_false_iff_ne];omega) | skip
               first | (have y3:decide (((k:Nat):Int)>1)=true:=dT_ (by omega)) | (have y3:decide (((k:Nat):Int)>1)=false:=dF_ (by omega))
               clear hhd0 hbad
               try clear y2
               have hl2:l=l.take k++47::l.drop (k+1):=by rw [←hsp,←hdr,List.take_append_drop]
               obtain ⟨b,hb⟩:=eY (t.extract (k+1) t.size)
               have hbl:b.data.toList=l.drop (k+1):=by rw [←hb,Lib.extract_to_end,hl.out]
               have hbs:b.size≤2000:=by
                 have h1:b.data.toList.length=b.size:=Array.length_toList (xs:=b.data)
                 rw [hbl,List.length_drop] at h1;omega
               obtain ⟨m,hm⟩:=eY (l.drop (k+1))
               rw [hm] at hbl hl2
               have hml:m.length=t.size - (k+1):=by rw [←hm,List.length_drop];omega
               obtain ⟨okb,hok⟩:=eY (AT m)
               have HD:=hid (B7' (w:=w1) hbl hok (by omega))
               have z1:(((k:Nat):Int)==((t.size:Nat):Int))=false:=by rw [beq_eq_false_iff_ne];omega
               have z2:((k:Nat):Int)+1≤((t.size:Nat):Int):=by omega
               have z3:(((t[k].toNat:Nat):Int)==47)=true:=by rw [beq_iff_eq];omega
               replace hb2:=hid hb
               replace hbl:=hid hbl
               replace hm:=hid hm
               go_wp2_with fail
               refine (HD.out).mono ?_
               rintro e w2 ⟨vy,rfl,hvy,b2⟩
               replace hvy:=hid hvy
               replace hRB:=hid (hRB.out.call b2)
               replace hvx:=hid (hvx.out.keep b2)
               replace b2:=hid b2
               clear HD
               rcases okb with _ | _
               · have hT:AX' neg l=none:=by
                   rw [hl2,BR h7,if_neg]
                   intro h
                   have:=AW' h.2.1;rw [hok] at this;cases this
                 clear hwh h6 h7 hvx hvy
                 replace hPV:=hid (show PV=AB' w 0 4 by rw [hPV.out,hT])
                 go_wp2_with fail
                 refine (Bv).mono ?_
                 rintro e wE ⟨vE,rfl,hvE,bE⟩
                 obtain ⟨AE,cE,AF,cF,rfl,hE1,hE2⟩:=hvE.opened
                 have hRBE:=hid (hRB.out.call bE)
                 replace hE1:=hid hE1
                 replace hE2:=hid hE2
                 clear hvE bE hRB
                 obtain ⟨sE,hsE⟩:=eY (decide ((0:Rat).num<0))
                 obtain ⟨nE,hnE⟩:=eY (len (0:Rat).num.natAbs)
                 obtain ⟨nF,hnF⟩:=eY (len (0:Rat).den)
                 rw [hnE] at hE1 ⊢
                 rw [hnF] at hE2 ⊢
                 rw [hsE]
                 obtain ⟨hbF,⟨r0,r1,r2⟩,hkF⟩:=(hRBE.out).store (b:=sE) (A:=AE) (n:=nE) (c:=cE) (A':=AF) (n':=nF) (c':=cF) _ rfl
                 obtain ⟨u0,u1,u2,⟨k0,k1,k2⟩,f0,f1,f2⟩:=(hRBE.out).cells
                 have FIN:=hid (show Ah' _ (.agg #[.bool sE,.slice AE nE cE,.slice AF nF cF]) (0:Rat) from ⟨_,_,by rw [hsE],hkF _ _ hE1.out,hkF _ _ hE2.out⟩)
                 have FB:=hid hbF
                 replace hsE:=hid hsE
                 replace hnE:=hid hnE
                 replace hnF:=hid hnF
                 clear hbF hkF
                 go_wp2_with fail
                 refine bP (v:=.tuple #[.agg #[.bool sE,.slice AE nE cE,.slice AF nF cF],.int .i64 4]) ?_ rfl (by rw [hPV.out];exact ⟨_,rfl,FIN.out,by rw [hR.out];exact FB.out⟩)
                 simp [results,Tryz.results74,go_sem,r0,r1,r2]
               · replace hvy:=hid (hvy.out rfl)
                 have hm0:0<m.length:=by
                   rcases m with _ | ⟨x,m⟩
                   · cases hok
                   · simp
                 have z4:k+1<t.size:=by omega
                 have z5:((k:Nat):Int)+1<((t.size:Nat):Int):=by omega
                 have hly:len (valL m)≤2000:=nT (Cv' (AN' hok)) (by omega)
                 have hhd:m.headD 0=t[k+1]:=by
                   rw [←hm.out,←hl.out,CP z4];rfl
                 by_cases hz:t[k+1].toNat=48
                 · have z6:(((t[k+1].toNat:Nat):Int)==48)=true:=by rw [beq_iff_eq];omega
                   have hT:AX' neg l=none:=by
                     rw [hl2,BR h7,if_neg]
                     intro h
                     have:=((Ei' m).1 h.2).2
                     rw [hhd,(at_nat z4 48).2 hz] at this
                     cases this
                   clear hwh h6 h7 hvx hvy hz hhd
                   replace hPV:=hid (show PV=AB' w 0 4 by rw [hPV.out,hT])
                   go_wp2_with fail
                   refine (Bv).mono ?_
                   rintro e wE ⟨vE,rfl,hvE,bE⟩
                   obtain ⟨AE,cE,AF,cF,rfl,hE1,hE2⟩:=hvE.opened
                   have hRBE:=hid (hRB.out.call bE)
                   replace hE1:=hid hE1
                   replace hE2:=hid hE2
                   clear hvE bE hRB
                   obtain ⟨sE,hsE⟩:=eY (decide ((0:Rat).num<0))
                   obtain ⟨nE,hnE⟩:=eY (len (0:Rat).num.natAbs)
                   obtain ⟨nF,hnF⟩:=eY (len (0:Rat).den)
                   rw [hnE] at hE1 ⊢
                   rw [hnF] at hE2 ⊢
                   rw [hsE]
                   obtain ⟨hbF,⟨r0,r1,r2⟩,hkF⟩:=(hRBE.out).store (b:=sE) (A:=AE) (n:=nE) (c:=cE) (A':=AF) (n':=nF) (c':=cF) _ rfl
                   obtain ⟨u0,u1,u2,⟨k0,k1,k2⟩,f0,f1,f2⟩:=(hRBE.out).cells
                   have FIN:=hid (show Ah' _ (.agg #[.bool sE,.slice AE nE cE,.slice AF nF cF]) (0:Rat) from ⟨_,_,by rw [hsE],hkF _ _ hE1.out,hkF _ _ hE2.out⟩)
                   have FB:=hid hbF
                   replace hsE:=hid hsE
                   replace hnE:=hid hnE
                   replace hnF:=hid hnF
                   clear hbF hkF
                   go_wp2_with fail
                   refine bP (v:=.tuple #[.agg #[.bool sE,.slice AE nE cE,.slice AF nF cF],.int .i64 4]) ?_ rfl (by rw [hPV.out];exact ⟨_,rfl,FIN.out,by rw [hR.out];exact FB.out⟩)
                   simp [results,Tryz.results74,go_sem,r0,r1,r2]
                 · have z6:(((t[k+1].toNat:Nat):Int)==48)=false:=by rw [beq_eq_false_iff_ne];omega
                   have hfr:AT m=true∧(m.headD 0==48)=false:=⟨hok,by rw [hhd,beq_eq_false_iff_ne];exact fun h=>hz ((at_nat z4 48).1 h)⟩
                   have hT:AX' neg l=some (rat neg (valL (l.take k)) (valL m)):=by
                     rw [hl2,BR h7,if_pos ⟨hwh,(Ei' m).2 hfr⟩,←hl2];rfl
                   obtain ⟨Q,hQ⟩:=eY (rat neg (valL (l.take k)) (valL m))
                   rw [hQ] at hT
                   replace hPV:=hid (show PV=AB' w Q 0 by rw [hPV.out,hT])
                   have HM:=hid (BK hQ hvx.out hvy.out (Ip' hfr) (by omega) (by omega))
                   obtain ⟨Ax,cx,rfl,-,-,-,-⟩:=id hvx.out
                   obtain ⟨Ay,cy,rfl,-,-,-,-⟩:=id hvy.out
                   replace hQ:=hid hQ
                   replace hml:=hid hml
                   replace hok:=hid hok
                   clear hT hwh h6 h7 hvx hvy hz hhd hfr hl2 hokp hlx hly
                   go_wp2_with fail
                   refine (HM.out).mono ?_
                   rintro e wE ⟨vE,rfl,hvE,bE⟩
                   obtain ⟨AE,cE,AF,cF,rfl,hE1,hE2⟩:=hvE.opened
                   have hRBE:=hid (hRB.out.call bE)
                   replace hE1:=hid hE1
                   replace hE2:=hid hE2
                   clear hvE bE hRB
                   obtain ⟨sE,hsE⟩:=eY (decide (Q.num<0))
                   obtain ⟨nE,hnE⟩:=eY (len Q.num.natAbs)
                   obtain ⟨nF,hnF⟩:=eY (len Q.den)
                   rw [hnE] at hE1 ⊢
                   rw [hnF] at hE2 ⊢
                   rw [hsE]
                   obtain ⟨hbF,⟨r0,r1,r2⟩,hkF⟩:=(hRBE.out).store (b:=sE) (A:=AE) (n:=nE) (c:=cE) (A':=AF) (n':=nF) (c':=cF) _ rfl
                   obtain ⟨u0,u1,u2,⟨k0,k1,k2⟩,f0,f1,f2⟩:=(hRBE.out).cells
                   have FIN:=hid (show Ah' _ (.agg #[.bool sE,.slice AE nE cE,.slice AF nF cF]) Q from ⟨_,_,by rw [hsE],hkF _ _ hE1.out,hkF _ _ hE2.out⟩)
                   have FB:=hid hbF
                   replace hsE:=hid hsE
                   replace hnE:=hid hnE
                   replace hnF:=hid hnF
                   clear hbF hkF
                   go_wp2_with fail
                   refine bP (v:=.tuple #[.agg #[.bool sE,.slice AE nE cE,.slice AF nF cF],.int .i64 0]) ?_ rfl (by rw [hPV.out];exact ⟨_,rfl,FIN.out,by rw [hR.out];exact FB.out⟩)
                   simp [results,Tryz.results74,go_sem,r0,r1,r2]
     · have x2:(((t[k].toNat:Nat):Int) != 46)=true:=by rw [bne_iff_ne];intro h;exact hSp (Or.inl ((at_nat hlt 46).2 (by show _=46;omega)))
       have x3:(((t[k].toNat:Nat):Int) != 47)=true:=by rw [bne_iff_ne];intro h;exact hSp (Or.inr ((at_nat hlt 47).2 (by show _=47;omega)))
       have hns2:∀ c∈l.take (k+1),¬ Fg c:=by
         have e:l.take (k+1)=l.take k++[t[k]]:=by rw [←hl.out];exact Dj hlt
         intro c hc
         rw [e,List.mem_append,List.mem_singleton] at hc
         rcases hc with hc | rfl
         · exact hns.out c hc
         · exact hSp
       replace hns2:=hid hns2
       clear hSp hdr
       go_wp2_with fail
       go_round
       case rel=>exact ⟨k+1,by omega,by go_num,hns2⟩
       case measure=>simp [intOf];omega
   · obtain rfl:k=t.size:=by omega
     have hlk:l.take t.size=l:=List.take_of_length_le (by omega)
     obtain ⟨p,hp⟩:=eY (t.extract 0 t.size)
     have hpl:p.data.toList=l.take t.size:=by rw [←hp,Lib.extract_data,List.drop_zero,hl.out];rfl
     have hps:p.size≤2000:=by
       have h1:p.data.toList.length=p.size:=Array.length_toList (xs:=p.data)
       rw [hpl,List.length_take] at h1;omega
     obtain ⟨okp,hokp⟩:=eY (AT (l.take t.size))
     have HD:=hid (B7' (w:=wB) hpl hokp (by omega))
     have hp2:=hid hp
     replace hpl:=hid hpl
     have h6:(46:UInt8) ∉ l.take t.size:=fun h=>hns.out _ h (Or.inl rfl)
     have h7:(47:UInt8) ∉ l.take t.size:=fun h=>hns.out _ h (Or.inr rfl)
     have hbad:Aq' (l.take t.size)=false→AX' neg l=none:=fun h=>by
       have:=Dm (neg:=neg) (r:=l.drop t.size) hns.out h (Or.inl (List.drop_eq_nil_of_le (by omega)))
       rwa [List.take_append_drop] at this
     replace hbad:=hid hbad
     go_wp2_with fail
     refine (HD.out).mono ?_
     rintro e w1 ⟨vx,rfl,hvx,b1⟩
     replace hvx:=hid hvx
     replace hRB:=hid (hRB.out.call b1)
     clear HD hp b1
     rcases okp with _ | _
     · have hT:=hbad.out (by rw [Bb',hokp];rfl)
       clear hvx h6 h7
       replace hPV:=hid (show PV=AB' w 0 4 by rw [hPV.out,hT])
       go_wp2_with fail
       refine (Bv).mono ?_
       rintro e wE ⟨vE,rfl,hvE,bE⟩
       obtain ⟨AE,cE,AF,cF,rfl,hE1,hE2⟩:=hvE.opened
       have hRBE:=hid (hRB.out.call bE)
       replace hE1:=hid hE1
       replace hE2:=hid hE2
       clear hvE bE hRB
       obtain ⟨sE,hsE⟩:=eY (decide ((0:Rat).num<0))
       obtain ⟨nE,hnE⟩:=eY (len (0:Rat).num.natAbs)
       obtain ⟨nF,hnF⟩:=eY (len (0:Rat).den)
       rw [hnE] at hE1 ⊢
       rw [hnF] at hE2 ⊢
       rw [hsE]
       obtain ⟨hbF,⟨r0,r1,r2⟩,hkF⟩:=(hRBE.out).store (b:=sE) (A:=AE) (n:=nE) (c:=cE) (A':=AF) (n':=nF) (c':=cF) _ rfl
       obtain ⟨u0,u1,u2,⟨k0,k1,k2⟩,f0,f1,f2⟩:=(hRBE.out).cells
       have FIN:=hid (show Ah' _ (.agg #[.bool sE,.slice AE nE cE,.slice AF nF cF]) (0:Rat) from ⟨_,_,by rw [hsE],hkF _ _ hE1.out,hkF _ _ hE2.out⟩)
       have FB:=hid hbF
       replace hsE:=hid hsE
       replace hnE:=hid hnE
       replace hnF:=hid hnF
       clear hbF hkF
       go_wp2_with fail
       refine bP (v:=.tuple #[.agg #[.bool sE,.slice AE nE cE,.slice AF nF cF],.int .i64 4]) ?_ rfl (by rw [hPV.out];exact ⟨_,rfl,FIN.out,by rw [hR.out];exact FB.out⟩)
       simp [results,Tryz.results74,go_sem,r0,r1,r2]
     · replace hvx:=hid (hvx.out rfl)
       have hk0:0<t.size:=by
         rcases Nat.eq_zero_or_pos t.size with h | h
         · rw [h] at hokp;cases hokp
         · exact h
       have ht0:0<t.size:=by omega
       have ht1:(0:Int)<((t.size:Nat):Int):=by omega
       have hlx:len (valL (l.take t.size))≤2000:=nT (Cv' (AN' hokp)) (by rw [List.length_take];omega)
       have hhd0:(l.take t.size).headD 0=t[0]:=by rw [Dm' hk0,←hl.out,Ej ht0]
       have hlen0:(l.take t.size).length=t.size:=by rw [List.length_take];omega
       have hthree:(1<t.size∧t[0].toNat=48)∨(Aq' (l.take t.size)=true∧((1<t.size∧t[0].toNat≠48)∨t.size≤1)):=by
         by_cases h1:1<t.size
         · by_cases h2:t[0].toNat=48
           · exact Or.inl ⟨h1,h2⟩
           · refine Or.inr ⟨?_,Or.inl ⟨h1,h2⟩⟩
             rw [Bb',hokp,hhd0]
             have:(t[0]==48)=false:=by rw [beq_eq_false_iff_ne];exact fun h=>h2 ((at_nat ht0 48).1 h)
             rw [this];simp
         · refine Or.inr ⟨?_,Or.inr (by omega)⟩
           rw [Bb',hokp,hlen0]
           simp [h1]
       rcases hthree with ⟨y1,y2⟩ | ⟨hwh,hy⟩
       · have hT:=hbad.out (by rw [Bb',hokp,hhd0,hlen0,(at_nat ht0 48).2 y2];simp [y1])
         have y3:decide (((t.size:Nat):Int)>1)=true:=dT_ (by omega)
         have y5:(((t[0].toNat:Nat):Int)==48)=true:=by rw [beq_iff_eq];omega
         clear hvx h6 h7 hhd0 y2
         replace hPV:=hid (show PV=AB' w 0 4 by rw [hPV.out,hT])
         go_wp2_with fail
         refine (Bv).mono ?_
         rintro e wE ⟨vE,rfl,hvE,bE⟩
         obtain ⟨AE,cE,AF,cF,rfl,hE1,hE2⟩:=hvE.opened
         have hRBE:=hid (hRB.out.call bE)
         replace hE1:=hid hE1
         replace hE2:=hid hE2
         clear hvE bE hRB
         obtain ⟨sE,hsE⟩:=eY (decide ((0:Rat).num<0))
         obtain ⟨nE,hnE⟩:=eY (len (0:Rat).num.natAbs)
         obtain ⟨nF,hnF⟩:=eY (len (0:Rat).den)
         rw [hnE] at hE1 ⊢
         rw [hnF] at hE2 ⊢
         rw [hsE]
         obtain ⟨hbF,⟨r0,r1,r2⟩,hkF⟩:=(hRBE.out).store (b:=sE) (A:=AE) (n:=nE) (c:=cE) (A':=AF) (n':=nF) (c':=cF) _ rfl
         obtain ⟨u0,u1,u2,⟨k0,k1,k2⟩,f0,f1,f2⟩:=(hRBE.out).cells
         have FIN:=hid (show Ah' _ (.agg #[.bool sE,.slice AE nE cE,.slice AF nF cF]) (0:Rat) from ⟨_,_,by rw [hsE],hkF _ _ hE1.out,hkF _ _ hE2.out⟩)
         have FB:=hid hbF
         replace hsE:=hid hsE
         replace hnE:=hid hnE
         replace hnF:=hid hnF
         clear hbF hkF
         go_wp2_with fail
         refine bP (v:=.tuple #[.agg #[.bool sE,.slice AE nE cE,.slice AF nF cF],.int .i64 4]) ?_ rfl (by rw [hPV.out];exact ⟨_,rfl,FIN.out,by rw [hR.out];exact FB.out⟩)
         simp [results,Tryz.results74,go_sem,r0,r1,r2]
       · rcases hy with ⟨y1,y2⟩ | y1
         all_goals
           first | (have y5:(((t[0].toNat:Nat):Int)==48)=false:=by rw [beq_eq_false_iff_ne];omega) | skip
           first | (have y3:decide (((t.size:Nat):Int)>1)=true:=dT_ (by omega)) | (have y3:decide (((t.size:Nat):Int)>1)=false:=dF_ (by omega))
           clear hhd0 hbad
           try clear y2
           have hT:AX' neg l=some (rat neg (valL l) 1):=by rw [←hlk,EB' h6 h7,if_pos hwh,hlk];rfl
           rw [hlk] at hvx hlx
           obtain ⟨Q,hQ⟩:=eY (rat neg (valL l) 1)
           rw [hQ] at hT
           replace hPV:=hid (show PV=AB' w Q 0 by rw [hPV.out,hT])
           have z1:(((t.size:Nat):Int)==((t.size:Nat):Int))=true:=by simp
           have HM:=hid (BK (w:=w1.alloc (.cells #[.int .i64 1] 3)) hQ (hvx.out.keep (Ag' w1 _)) (Cv w1) (by decide) (by omega) (by rw [Bz' (by decide) (by decide)];decide))
           replace hRB:=hid (hRB.out.call (Ag' w1 (.cells #[.int .i64 1] 3)))
           obtain ⟨Ax,cx,rfl,-,-,-,-⟩:=id hvx.out
           clear hT hwh h6 h7 hvx
           go_wp2_with fail
           refine (HM.out).mono ?_
           rintro e wE ⟨vE,rfl,hvE,bE⟩
           obtain ⟨AE,cE,AF,cF,rfl,hE1,hE2⟩:=hvE.opened
           have hRBE:=hid (hRB.out.call bE)
           replace hE1:=hid hE1
           replace hE2:=hid hE2
           clear hvE bE hRB
           obtain ⟨sE,hsE⟩:=eY (decide (Q.num<0))
           obtain ⟨nE,hnE⟩:=eY (len Q.num.natAbs)
           obtain ⟨nF,hnF⟩:=eY (len Q.den)
           rw [hnE] at hE1 ⊢
           rw [hnF] at hE2 ⊢
           rw [hsE]
           obtain ⟨hbF,⟨r0,r1,r2⟩,hkF⟩:=(hRBE.out).store (b:=sE) (A:=AE) (n:=nE) (c:=cE) (A':=AF) (n':=nF) (c':=cF) _ rfl
           obtain ⟨u0,u1,u2,⟨k0,k1,k2⟩,f0,f1,f2⟩:=(hRBE.out).cells
           have FIN:=hid (show Ah' _ (.agg #[.bool sE,.slice AE nE cE,.slice AF nF cF]) Q from ⟨_,_,by rw [hsE],hkF _ _ hE1.out,hkF _ _ hE2.out⟩)
           have FB:=hid hbF
           replace hsE:=hid hsE
           replace hnE:=hid hnE
           replace hnF:=hid hnF
           clear hbF hkF
           go_wp2_with fail
           refine bP (v:=.tuple #[.agg #[.bool sE,.slice AE nE cE,.slice AF nF cF],.int .i64 0]) ?_ rfl (by rw [hPV.out];exact ⟨_,rfl,FIN.out,by rw [hR.out];exact FB.out⟩)
           simp [results,Tryz.results74,go_sem,r0,r1,r2]
end Go.Proofs.YtbigkkjnhcpgiaaGreatDoor.Rf
