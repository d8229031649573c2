/-
  Contracts of the functions that the law calls, for every input (BoxG BoxH KnA NumN KnB).
-/
import Derived.Test.YtbigkkjnhcpgiaaGreatDoorQ00
import Derived.Test.YtbigkkjnhcpgiaaGreatDoorQ21
import Derived.Test.YtbigkkjnhcpgiaaGreatDoorQ19
import Derived.Test.YtbigkkjnhcpgiaaGreatDoorQ09
import Derived.Test.YtbigkkjnhcpgiaaGreatDoorQ12
set_option linter.all false
set_option maxRecDepth 100000
set_option maxHeartbeats 40000000
namespace Go.Proofs.YtbigkkjnhcpgiaaGreatDoor
open Lib (hid)
open Go.RowKit
open Vx
theorem D2' {w:World} {v u:Value} {a b c d:Rat} (hv:Ao' w v a b) (hu:Ao' w u c d) (hs1:Aa' a≤1073741824) (hs2:Aa' b≤1073741824) (hs3:Aa' c≤1073741824) (hs4:Aa' d≤1073741824) :
   Calls Tryz.prog 23 #[v,u] w (Bk' w (leastOf ((a*c)) [(a*d),(b*c),(b*d)]) (greatestOf ((a*c)) [(a*d),(b*c),(b*d)])):=by
 obtain ⟨A1,c1,A2,c2,A3,c3,A4,c4,rfl,ha,hb⟩:=hv.opened
 obtain ⟨A5,c5,A6,c6,A7,c7,A8,c8,rfl,hc,hd⟩:=hu.opened
 obtain ⟨wB,hwB⟩:=eX (((w.alloc (.cells #[.bool (decide (a.num<0)),.slice A1 (len a.num.natAbs) c1,.slice A2 (len (below a.den)) c2,.bool (decide (b.num<0)),.slice A3 (len b.num.natAbs) c3,.slice A4 (len (below b.den)) c4] 35)).alloc (.cells #[.bool (decide (c.num<0)),.slice A5 (len c.num.natAbs) c5,.slice A6 (len (below c.den)) c6,.bool (decide (d.num<0)),.slice A7 (len d.num.natAbs) c7,.slice A8 (len (below d.den)) c8] 35)).alloc (.cells #[.bool false,.slice none 0 0,.slice none 0 0,.bool false,.slice none 0 0,.slice none 0 0] 35))
 obtain ⟨b0,g0,g1,g2⟩:=AK' hwB
 obtain ⟨k0,k1,k2,k3,k4,k5⟩:=Ae' g0
 obtain ⟨k6,k7,k8,k9,k10,k11⟩:=Ae' g1
 have HK0:=hid (Ai'.start (T:=35) rfl BQ' g2)
 have HB0:=hid b0
 have hlt1:w.heap.size<w.heap.size+2:=by omega
 have hlt2:w.heap.size+1<w.heap.size+2:=by omega
 clear g0 g1 g2 b0
 have HX:=hid (FD (Ac'.pair (ha.keep HB0.out) (hb.keep HB0.out)) (Ac'.pair (hc.keep HB0.out) (hd.keep HB0.out)) hs1 hs2 hs3 hs4)
 obtain ⟨q,hq⟩:=eX (leastOf ((a*c)) [(a*d),(b*c),(b*d)]:Rat)
 obtain ⟨r,hr⟩:=eX (greatestOf ((a*c)) [(a*d),(b*c),(b*d)]:Rat)
 rw [←hq,←hr] at HX ⊢
 clear hq hr hv hu ha hb hc hd hs1 hs2 hs3 hs4
 go_enter Tryz.func23,Tryz.ntmps23
 go_upto_region 1 with fail
 rw [←hwB]
 clear hwB
 go_wp2_with fail
 refine (HX.out).mono ?_
 rintro e w5 ⟨v5,rfl,hv5,b5⟩
 obtain ⟨C1,j1,C2,j2,C3,j3,C4,j4,rfl,hq1,hr1⟩:=hv5.opened
 have hk:=(HK0.out.call b5).held6 (Aj.refl _)
 have hk':=hk
 unfold Am' at hk'
 clear b5 HX
 obtain ⟨-,c0,c1',c2',c3',c4',c5',f0,f1,f2,f3,f4,f5,-⟩:=hk'
 have HD:=hk.done (p:=q) (q:=r) (s1:=decide (q.num<0)) (A1:=C1) (n1:=len q.num.natAbs) (c1:=j1) (A2:=C2) (n2:=len (below q.den)) (c2:=j2) (s2:=decide (r.num<0)) (A3:=C3) (n3:=len r.num.natAbs) (c3:=j3) (A4:=C4) (n4:=len (below r.den)) (c4:=j4) (hq1) (hr1)
 obtain ⟨d1,d2,d3⟩:=HD
 obtain ⟨r0,r1,r2,r3,r4,r5⟩:=Ae' d3
 have HD:=hid (And.intro d1 d2)
 clear d1 d2 d3
 go_wp2_with fail
 refine bP (v:=.agg #[.bool (decide (q.num<0)),.slice (C1) (len q.num.natAbs) (j1),.slice (C2) (len (below q.den)) (j2),.bool (decide (r.num<0)),.slice (C3) (len r.num.natAbs) (j3),.slice (C4) (len (below r.den)) (j4)]) ?_ rfl ⟨_,rfl,HD.out.1,Ae HB0.out (by omega) HD.out.2⟩
 simp [results,Tryz.results23,go_sem,r0,r1,r2,r3,r4,r5]
def CO' (h:Nat):Nat:=if rootOf h*rootOf h<h then rootOf h+1 else rootOf h
theorem G7' (s:Bool) (A B:Option Addr) (n c m d:Nat) (w:World):(Instr.field 33 (.agg #[.bool s,.slice A n c,.slice B m d]) 1).run Tryz.prog w=.ok (.slice A n c) w:=by kernel_rfl
theorem Du {w:World} {v:Value} {n:Nat} (h:Nt w v n):Ac' w (.agg #[.bool false,v,.slice none 0 0]) ((n:Nat):Rat):=by
 refine ⟨v,.slice none 0 0,?_,?_,?_⟩
 · rw [show decide ((((n:Nat):Rat)).num<0)=false from dF_ (by rw [Rat.num_natCast];omega)]
 · rw [Rat.num_natCast,Int.natAbs_natCast];exact h
 · rw [Rat.den_natCast];exact Nt.zero w
theorem Cu' (n:Nat):Aa' ((n:Nat):Rat)≤max (len n) 1:=by
 refine E3' ?_ ?_
 · rw [Rat.num_natCast,Int.natAbs_natCast];omega
 · rw [Rat.den_natCast,A0'];omega
theorem Fa' {a b:Nat}:An' a b<0↔a<b:=by
 unfold An'
 split
 · rename_i h
   exact ⟨fun _=>h,fun _=>by omega⟩
 · rename_i h
   split <;> exact ⟨fun h2=>by omega,fun h2=>absurd h2 h⟩
theorem Cr (q:Rat):len q.num.natAbs≤Aa' q:=Al' q
theorem Gn' {w:World} {v vg:Value} {a b g sq da db fa fb:Rat} (hv:Ao' w v a b) (hg:Ac' w vg g) (hs1:Aa' a≤1048576) (hs2:Aa' b≤1048576) (hs3:Aa' g≤1048576)
   (hpos:0<g.num) (hmin:0≤a.num) (hsq:sq=g*g) (hda:da=a / sq) (hdb:db=b / sq) (hfa:fa=Co da) (hfb:fb = -Co (-db)) {xl xg:Rat} {n m:Nat} (hn:n=rootOf fa.num.natAbs) (hm:m=CO' fb.num.natAbs) (hxl:xl=(n:Rat)*g) (hxg:xg=(m:Rat)*g) :
   Calls Tryz.prog 19 #[v,vg] w (Ba w xl xg 0):=by
 obtain ⟨A1,c1,A2,c2,A3,c3,A4,c4,rfl,ha,hb⟩:=hv.opened
 obtain ⟨A5,c5,A6,c6,rfl,-,-⟩:=id hg.opened
 obtain ⟨wB,hwB⟩:=eX (((w.alloc (.cells #[.bool (decide (a.num<0)),.slice A1 (len a.num.natAbs) c1,.slice A2 (len (below a.den)) c2,.bool (decide (b.num<0)),.slice A3 (len b.num.natAbs) c3,.slice A4 (len (below b.den)) c4] 35)).alloc (.cells #[.bool (decide (g.num<0)),.slice A5 (len g.num.natAbs) c5,.slice A6 (len (below g.den)) c6] 33)).alloc (.cells #[.bool false,.slice none 0 0,.slice none 0 0,.bool false,.slice none 0 0,.slice none 0 0] 35))
 obtain ⟨b0,g0,g1,g2⟩:=AK' hwB
 obtain ⟨k0,k1,k2,k3,k4,k5⟩:=Ae' g0
 obtain ⟨k6,k7,k8⟩:=Ab' g1
 have HK0:=hid (Ai'.start (T:=35) rfl BQ' g2)
 have HB0:=hid b0
 have hlt1:w.heap.size<w.heap.size+2:=by omega
 have hlt2:w.heap.size+1<w.heap.size+2:=by omega
 clear g0 g1 g2 b0
 have e1:decide (g.num.sign≤0)=false:=dF_ (by rw [Int.sign_eq_one_of_pos hpos];omega)
 have e2:decide (a.num.sign<0)=false:=dF_ (by intro h;have:=Int.sign_nonneg_iff.2 hmin;omega)
 obtain ⟨z1,hz1⟩:=eX (g.num.sign:Int)
 obtain ⟨z2,hz2⟩:=eX (a.num.sign:Int)
 have HS1:=hid (AN (hg.keep HB0.out))
 have HS2:=fun (w':World) (hk:Below w.heap.size w w')=>hid (AN (ha.keep hk))
 rw [←hz1] at e1 HS1
 rw [←hz2] at e2 HS2
 clear hz1 hz2
 have zsq:Aa' sq≤2097152:=by rw [hsq];exact nT (AG g g) (by omega)
 have zda:Aa' da≤3145728:=by rw [hda];exact nT (Cc' a sq) (by omega)
 have zdb:Aa' db≤3145728:=by rw [hdb];exact nT (Cc' b sq) (by omega)
 have zfa:Aa' fa≤3145728:=by rw [hfa];exact nT (Eg da) zda
 have zfb:Aa' fb≤3145728:=by rw [hfb,CM'];exact nT (Eg (-db)) (by rw [CM'];exact zdb)
 have zn:len n≤3145728:=by rw [hn];exact nT (Ah (Er _)) (nT (Cr fa) zfa)
 have zr:len (rootOf fb.num.natAbs)≤3145728:=nT (Ah (Er _)) (nT (Cr fb) zfb)
 have zm:len m≤3145729:=by
   rw [hm]
   unfold CO'
   split
   · refine nT (Bc' _ _) ?_
     rw [A0'];omega
   · omega
 have zla:len fa.num.natAbs≤3145728:=nT (Cr fa) zfa
 have zlb:len fb.num.natAbs≤3145728:=nT (Cr fb) zfb
 obtain ⟨r,hr⟩:=eX (rootOf fb.num.natAbs:Nat)
 rw [←hr] at zr
 have hm':Hid (m=if r*r<fb.num.natAbs then r+1 else r):=by rw [hr];exact hm
 replace hsq:=hid hsq
 replace hda:=hid hda
 replace hdb:=hid hdb
 replace hfa:=hid hfa
 replace hfb:=hid hfb
 replace hn:=hid hn
 replace hxl:=hid hxl
 replace hxg:=hid hxg
 replace hr:=hid hr
 replace zsq:=hid zsq
 replace zda:=hid zda
 replace zdb:=hid zdb
 replace zfa:=hid zfa
 replace zfb:=hid zfb
 replace zn:=hid zn
 replace zr:=hid zr
 replace zm:=hid zm
 replace zla:=hid zla
 replace zlb:=hid zlb
 replace hs1:=hid hs1
 replace hs2:=hid hs2
 replace hs3:=hid hs3
 replace hv:=hid hv
 replace ha:=hid ha
 replace hb:=hid hb
 replace hg:=hid hg
 clear hpos hmin hm hv
 have hft:=G7'
 go_enter Tryz.func19,Tryz.ntmps19
 go_upto_region 1 with fail
 rw [←hwB]
 clear hwB
 go_wp2_with fail
 refine (HS1.out).mono ?_
 rintro e w1 ⟨rfl,b1⟩
 replace b1:=hid b1
 have HK1:=hid (HK0.out.call b1.out)
 have hB1:=hid (Ae HB0.out (by omega) HK1.out.1)
 have hbc1:=Ao HK1.out.1
 clear HS1
 go_wp2_with fail
 refine ((HS2 _ hB1.out).out).mono ?_
 rintro e w2 ⟨rfl,b2⟩
 replace b2:=hid b2
 have HK2:=hid (HK1.out.call b2.out)
 have hB2:=hid (Ae HB0.out (by omega) HK2.out.1)
 have hbc2:=Ao HK2.out.1
 clear HS2 hbc1
 have HX:=hid (AY (hg.out.keep hB2.out) (hg.out.keep hB2.out) (nT hs3.out (by omega)) (nT hs3.out (by omega)))
 rw [←hsq.out] at HX
 go_wp2_with fail
 refine (HX.out).mono ?_
 rintro e w3 ⟨v3,rfl,hv3,b3⟩
 obtain ⟨C1,j1,C2,j2,rfl,-,-⟩:=id hv3.opened
 clear HX hbc2
 replace b3:=hid b3
 have HK3:=hid (HK2.out.call b3.out)
 have hB3:=hid (Ae HB0.out (by omega) HK3.out.1)
 have hbc3:=Ao HK3.out.1
 replace hv3:=hid hv3
 go_upto_region 6 with fail
 obtain ⟨w4,hw4⟩:=eX (w3.alloc (.cells #[.bool (decide (sq.num<0)),.slice C1 (len sq.num.natAbs) j1,.slice C2 (len (below sq.den)) j2] 33))
 have b4:Below w3.heap.size w3 w4:=by rw [hw4];exact (Below.refl _ _).alloc (nL _) _
 have L4:w4.heap[w3.heap.size]?=some (.cells #[.bool (decide (sq.num<0)),.slice C1 (len sq.num.natAbs) j1,.slice C2 (len (below sq.den)) j2] 33 (0,0)):=by rw [hw4];exact hA_ w3 _
 rw [←hw4]
 clear hw4 hbc3
 replace b4:=hid b4
 have HK4:=hid (HK3.out.call b4.out)
 have hB4:=hid (Ae HB0.out (by omega) HK4.out.1)
 have hbc4:=Ao HK4.out.1
 obtain ⟨s0,s1,s2⟩:=Ab' L4
 have hw4s:w3.heap.size<w4.heap.size:=(gE.1 L4).1
 have hsqv:=hid (hv3.out.keep b4.out)
 clear L4
 have HX:=hid (CI' (ha.out.keep hB4.out) hsqv.out (nT hs1.out (by omega)) (nT zsq.out (by omega)))
 rw [←hda.out] at HX
 go_wp2_with fail
 refine (HX.out).mono ?_
 rintro e w5 ⟨v5,rfl,hv5,b5⟩
 clear HX hbc4
 replace b5:=hid b5
 have HK5:=hid (HK4.out.call b5.out)
 have hB5:=hid (Ae HB0.out (by omega) HK5.out.1)
 have hbc5:=Ao HK5.out.1
 have HX:=hid (Dk hv5 (nT zda.out (by omega)))
 change Hid (Calls _ _ _ _ (Ar' w5 (Co da))) at HX
 rw [←hfa.out] at HX
 have hy5:=hid (fun b' o' (h:b'<w4.heap.size)=>b5.out.cell (p:=⟨b',o',none⟩) h)
 have s0:w5.cell? ⟨w3.heap.size,0,none⟩=some (.bool (decide (sq.num<0))):=(hy5.out _ _ hw4s).trans s0
 have s1:w5.cell? ⟨w3.heap.size,1,none⟩=some (.slice C1 (len sq.num.natAbs) j1):=(hy5.out _ _ hw4s).trans s1
 have s2:w5.cell? ⟨w3.heap.size,2,none⟩=some (.slice C2 (len (below sq.den)) j2):=(hy5.out _ _ hw4s).trans s2
 have hw5s:w3.heap.size<w5.heap.size:=ltl hw4s b5.out.size
 replace hsqv:=hid (hsqv.out.keep b5.out)
 clear hy5 hw4s
 go_wp2_with fail
 refine (HX.out).mono ?_
 rintro e w6 ⟨v6,rfl,hv6,b6⟩
 obtain ⟨C3,j3,C4,j4,rfl,hv6n,-⟩:=id hv6.opened
 clear HX hbc5 hv5 hv6
 replace b6:=hid b6
 have HK6:=hid (HK5.out.call b6.out)
 have hB6:=hid (Ae HB0.out (by omega) HK6.out.1)
 have hbc6:=Ao HK6.out.1
 have hy6:=hid (fun b' o' (h:b'<w5.heap.size)=>b6.out.cell (p:=⟨b',o',none⟩) h)
 have s0:w6.cell? ⟨w3.heap.size,0,none⟩=some (.bool (decide (sq.num<0))):=(hy6.out _ _ hw5s).trans s0
 have s1:w6.cell? ⟨w3.heap.size,1,none⟩=some (.slice C1 (len sq.num.natAbs) j1):=(hy6.out _ _ hw5s).trans s1
 have s2:w6.cell? ⟨w3.heap.size,2,none⟩=some (.slice C2 (len (below sq.den)) j2):=(hy6.out _ _ hw5s).trans s2
 replace hsqv:=hid (hsqv.out.keep b6.out)
 replace hv6n:=hid hv6n
 clear hy6 hw5s
 have HX:=hid (CI' (hb.out.keep hB6.out) hsqv.out (nT hs2.out (by omega)) (nT zsq.out (by omega)))
 rw [←hdb.out] at HX
 go_wp2_with fail
 refine (HX.out).mono ?_
 rintro e w7 ⟨v7,rfl,hv7,b7⟩
 clear HX hbc6 s0 s1 s2 hsqv
 replace b7:=hid b7
 have HK7:=hid (HK6.out.call b7.out)
 have hB7:=hid (Ae HB0.out (by omega) HK7.out.1)
 have hbc7:=Ao HK7.out.1
 have HX:=hid (FC' hv7 (nT zdb.out (by omega)))
 rw [←hfb.out] at HX
 go_wp2_with fail
 refine (HX.out).mono ?_
 rintro e w8 ⟨v8,rfl,hv8,b8⟩
 obtain ⟨C5,j5,C6,j6,rfl,hv8n,-⟩:=id hv8.opened
 clear HX hbc7 hv7 hv8
 replace b8:=hid b8
 have HK8:=hid (HK7.out.call b8.out)
 have hB8:=hid (Ae HB0.out (by omega) HK8.out.1)
 have hbc8:=Ao HK8.out.1
 have HX:=hid (DI' hv8n (nT zlb.out (by omega)))
 rw [←hr.out] at HX
 go_wp2_with fail
 refine (HX.out).mono ?_
 rintro e w9 ⟨v9,rfl,hv9,b9⟩
 obtain ⟨C7,j7,rfl,-⟩:=id hv9
 clear HX hbc8
 replace b9:=hid b9
 have HK9:=hid (HK8.out.call b9.out)
 have hB9:=hid (Ae HB0.out (by omega) HK9.out.1)
 have hbc9:=Ao HK9.out.1
 replace hv6n:=hid (((hv6n.out.keep b7.out).keep b8.out).keep b9.out)
 replace hv8n:=hid (hv8n.keep b9.out)
 replace hv9:=hid hv9
 have HX:=hid (AP' hv9.out hv9.out (nT zr.out (by omega)) (nT zr.out (by omega)))
 go_wp2_with fail
 refine (HX.out).mono ?_
 rintro e w10 ⟨v10,rfl,hv10,b10⟩
 clear HX hbc9
 replace b10:=hid b10
 have HK10:=hid (HK9.out.call b10.out)
 have hB10:=hid (Ae HB0.out (by omega) HK10.out.1)
 have hbc10:=Ao HK10.out.1
 have HX:=hid (Bg hv10 (hv8n.out.keep b10.out))
 obtain ⟨cc,hcc⟩:=eX (An' (r*r) fb.num.natAbs:Int)
 rw [←hcc] at HX
 replace hcc:=hid hcc
 replace hv10:=hid hv10
 rcases Decidable.em (r*r<fb.num.natAbs) with hlt | hlt
 · have hd:decide (cc<0)=true:=dT_ (by rw [hcc.out];exact Fa'.2 hlt)
   have hm2:=hm'.out
   rw [if_pos hlt] at hm2
   replace hm2:=hid hm2
   clear hlt hm' hcc
   go_wp2_with fail
   refine (HX.out).mono ?_
   rintro e w11 ⟨rfl,nd,rfl⟩
   have b11:Below w10.heap.size w10 (w10.drewN nd):=⟨rfl,rfl,rfl,nL _,fun _ _=>rfl⟩
   obtain ⟨w11,hw11⟩:=eX (w10.drewN nd)
   rw [←hw11] at b11 ⊢
   clear hw11 HX hbc10
   replace b11:=hid b11
   have HK11:=hid (HK10.out.call b11.out)
   have hB11:=hid (Ae HB0.out (by omega) HK11.out.1)
   have hbc11:=Ao HK11.out.1
   go_upto_region 10 with fail
   have hone:Nt (w11.alloc (.cells #[.int .u64 1] 86)) (.slice (some ⟨w11.heap.size,0,none⟩) 1 1) 1:=Cc w11
   have bA:Below w11.heap.size w11 (w11.alloc (.cells #[.int .u64 1] 86)):=(Below.refl _ _).alloc (nL _) _
   have HX:=hid (Ca' (((hv9.out.keep b10.out).keep b11.out).keep bA) hone (nT zr.out (by omega)) (by rw [A0'];omega))
   rw [←hm2.out] at HX
   replace bA:=hid bA
   clear hone
   go_wp2_with fail
   refine (HX.out).mono ?_
   rintro e w12 ⟨v12,rfl,hv12,b12⟩
   obtain ⟨C8,j8,rfl,-⟩:=id hv12
   have b12:Below w11.heap.size w11 w12:=bA.out.trans (b12.mono bA.out.size)
   clear bA HX hbc11
   replace b12:=hid b12
   have HK12:=hid (HK11.out.call b12.out)
   have hB12:=hid (Ae HB0.out (by omega) HK12.out.1)
   have hbc12:=Ao HK12.out.1
   replace hv12:=hid hv12
   have hlow:=hid (((hv6n.out.keep b10.out).keep b11.out).keep b12.out)
   have HR:=fun (w':World) (hk:Am' wB (w.heap.size+2) w12 w')=>hid (DI' (hk.stay _ _ hlow.out) (nT zla.out (by omega)))
   rw [←hn.out] at HR
   have HM1:=fun (w':World) (vn:Value) (hvn:Nt w' vn n) (hk:Am' wB (w.heap.size+2) w12 w')=>hid (AY (Du hvn) (hk.stay.num (hg.out.keep hB12.out)) (nT (Cu' n) (Nat.max_le.2 ⟨nT zn.out (by omega),by omega⟩)) (nT hs3.out (by omega)))
   rw [←hxl.out] at HM1
   have HM2:=fun (w':World) (hk:Am' wB (w.heap.size+2) w12 w')=>hid (AY (Du (hk.stay _ _ hv12.out)) (hk.stay.num (hg.out.keep hB12.out)) (nT (Cu' m) (Nat.max_le.2 ⟨nT zm.out (by omega),by omega⟩)) (nT hs3.out (by omega)))
   rw [←hxg.out] at HM2
   have H0:=HK12.out.begin6
   have H0':=H0
   unfold Am' at H0'
   clear hbc12 hlow
   go_wp2_with fail
   go_region_held3 (fun w'=>(∀ b o,b<w.heap.size+2→w'.cell? ⟨b,o,none⟩=wB.cell? ⟨b,o,none⟩)∧w'.cell? ⟨w.heap.size+2,0,none⟩=some (cur w' ⟨w.heap.size+2,0,none⟩)∧w'.cell? ⟨w.heap.size+2,1,none⟩=some (cur w' ⟨w.heap.size+2,1,none⟩)∧w'.cell? ⟨w.heap.size+2,2,none⟩=some (cur w' ⟨w.heap.size+2,2,none⟩)∧w'.cell? ⟨w.heap.size+2,3,none⟩=some (cur w' ⟨w.heap.size+2,3,none⟩)∧w'.cell? ⟨w.heap.size+2,4,none⟩=some (cur w' ⟨w.heap.size+2,4,none⟩)∧w'.cell? ⟨w.heap.size+2,5,none⟩=some (cur w' ⟨w.heap.size+2,5,none⟩)∧w'.frozen? ⟨w.heap.size+2,0,none⟩=false∧w'.frozen? ⟨w.heap.size+2,1,none⟩=false∧w'.frozen? ⟨w.heap.size+2,2,none⟩=false∧w'.frozen? ⟨w.heap.size+2,3,none⟩=false∧w'.frozen? ⟨w.heap.size+2,4,none⟩=false∧w'.frozen? ⟨w.heap.size+2,5,none⟩=false∧Ai' 6 35 wB (w.heap.size+2) w'∧Aj w12 w')
     (first | with_reducible exact H0' | with_reducible exact hk1' | with_reducible exact hk2' | with_reducible exact hk3' | exact hk3.store)
     (first | (go_at_call 30;refine ((HM2 _ hk2).out).mono ?_;rintro e w3 ⟨v3,rfl,hv3,hbl3⟩;obtain ⟨C5,j5,C6,j6,rfl,-,-⟩:=id hv3.opened;have hk3:=hk2.call hbl3;have hk3':=hk3;unfold Am' at hk3') | (go_at_call 30;refine ((HM1 _ _ hv1 hk1).out).mono ?_;rintro e w2 ⟨v2,rfl,hv2,hbl2⟩;obtain ⟨C3,j3,C4,j4,rfl,-,-⟩:=id hv2.opened;have hk2:=hk1.call hbl2;have hk2':=hk2;unfold Am' at hk2') | (go_at_call 69;refine ((HR _ H0).out).mono ?_;rintro e w1 ⟨v1,rfl,hv1,hbl1⟩;obtain ⟨C1,j1,rfl,-⟩:=id hv1;have hk1:=H0.call hbl1;have hk1':=hk1;unfold Am' at hk1'))
   rename_i hHl
   clear hHl
   have hv2':=hv2.keep hbl3
   have HD:=hk3.done (p:=xl) (q:=xg) (s1:=decide (xl.num<0)) (A1:=C3) (n1:=len xl.num.natAbs) (c1:=j3) (A2:=C4) (n2:=len (below xl.den)) (c2:=j4) (s2:=decide (xg.num<0)) (A3:=C5) (n3:=len xg.num.natAbs) (c3:=j5) (A4:=C6) (n4:=len (below xg.den)) (c4:=j6) (hv2') (hv3)
   obtain ⟨d1,d2,d3⟩:=HD
   obtain ⟨r0,r1,r2,r3,r4,r5⟩:=Ae' d3
   have HD:=hid (And.intro d1 d2)
   clear d1 d2 d3
   go_wp2_with fail
   refine bP (v:=.tuple #[.agg #[.bool (decide (xl.num<0)),.slice (C3) (len xl.num.natAbs) (j3),.slice (C4) (len (below xl.den)) (j4),.bool (decide (xg.num<0)),.slice (C5) (len xg.num.natAbs) (j5),.slice (C6) (len (below xg.den)) (j6)],.int .i64 0]) ?_ rfl ⟨_,rfl,HD.out.1,Ae HB0.out (by omega) HD.out.2⟩
   simp [results,Tryz.results19,go_sem,r0,r1,r2,r3,r4,r5]
 · have hd:decide (cc<0)=false:=dF_ (by rw [hcc.out];exact fun h=>hlt (Fa'.1 h))
   have hm2:=hm'.out
   rw [if_neg hlt] at hm2
   replace hm2:=hid hm2
   clear hlt hm' hcc
   go_wp2_with fail
   refine (HX.out).mono ?_
   rintro e w11 ⟨rfl,nd,rfl⟩
   have b11:Below w10.heap.size w10 (w10.drewN nd):=⟨rfl,rfl,rfl,nL _,fun _ _=>rfl⟩
   obtain ⟨w11,hw11⟩:=eX (w10.drewN nd)
   rw [←hw11] at b11 ⊢
   clear hw11 HX hbc10
   replace b11:=hid b11
   have HK11:=hid (HK10.out.call b11.out)
   have hB11:=hid (Ae HB0.out (by omega) HK11.out.1)
   have hbc11:=Ao HK11.out.1
   obtain ⟨w12,hw12⟩:=eX w11
   have b12:Below w11.heap.size w11 w12:=by rw [hw12];exact Below.refl _ _
   rw [←hw12]
   clear hw12 hbc11
   replace b12:=hid b12
   have HK12:=hid (HK11.out.call b12.out)
   have hB12:=hid (Ae HB0.out (by omega) HK12.out.1)
   have hbc12:=Ao HK12.out.1
   have hv12:Hid (Nt w12 (.slice C7 (len r) j7) m):=by rw [hm2.out];exact ((hv9.out.keep b10.out).keep b11.out).keep b12.out
   have hlow:=hid (((hv6n.out.keep b10.out).keep b11.out).keep b12.out)
   have HR:=fun (w':World) (hk:Am' wB (w.heap.size+2) w12 w')=>hid (DI' (hk.stay _ _ hlow.out) (nT zla.out (by omega)))
   rw [←hn.out] at HR
   have HM1:=fun (w':World) (vn:Value) (hvn:Nt w' vn n) (hk:Am' wB (w.heap.size+2) w12 w')=>hid (AY (Du hvn) (hk.stay.num (hg.out.keep hB12.out)) (nT (Cu' n) (Nat.max_le.2 ⟨nT zn.out (by omega),by omega⟩)) (nT hs3.out (by omega)))
   rw [←hxl.out] at HM1
   have HM2:=fun (w':World) (hk:Am' wB (w.heap.size+2) w12 w')=>hid (AY (Du (hk.stay _ _ hv12.out)) (hk.stay.num (hg.out.keep hB12.out)) (nT (Cu' m) (Nat.max_le.2 ⟨nT zm.out (by omega),by omega⟩)) (nT hs3.out (by omega)))
   rw [←hxg.out] at HM2
   have H0:=HK12.out.begin6
   have H0':=H0
   unfold Am' at H0'
   clear hbc12 hlow
   go_wp2_with fail
   go_region_held3 (fun w'=>(∀ b o,b<w.heap.size+2→w'.cell? ⟨b,o,none⟩=wB.cell? ⟨b,o,none⟩)∧w'.cell? ⟨w.heap.size+2,0,none⟩=some (cur w' ⟨w.heap.size+2,0,none⟩)∧w'.cell? ⟨w.heap.size+2,1,none⟩=some (cur w' ⟨w.heap.size+2,1,none⟩)∧w'.cell? ⟨w.heap.size+2,2,none⟩=some (cur w' ⟨w.heap.size+2,2,none⟩)∧w'.cell? ⟨w.heap.size+2,3,none⟩=some (cur w' ⟨w.heap.size+2,3,none⟩)∧w'.cell? ⟨w.heap.size+2,4,none⟩=some (cur w' ⟨w.heap.size+2,4,none⟩)∧w'.cell? ⟨w.heap.size+2,5,none⟩=some (cur w' ⟨w.heap.size+2,5,none⟩)∧w'.frozen? ⟨w.heap.size+2,0,none⟩=false∧w'.frozen? ⟨w.heap.size+2,1,none⟩=false∧w'.frozen? ⟨w.heap.size+2,2,none⟩=false∧w'.frozen? ⟨w.heap.size+2,3,none⟩=false∧w'.frozen? ⟨w.heap.size+2,4,none⟩=false∧w'.frozen? ⟨w.heap.size+2,5,none⟩=false∧Ai' 6 35 wB (w.heap.size+2) w'∧Aj w12 w')
     (first | with_reducible exact H0' | with_reducible exact hk1' | with_reducible exact hk2' | with_reducible exact hk3' | exact hk3.store)
     (first | (go_at_call 30;refine ((HM2 _ hk2).out).mono ?_;rintro e w3 ⟨v3,rfl,hv3,hbl3⟩;obtain ⟨C5,j5,C6,j6,rfl,-,-⟩:=id hv3.opened;have hk3:=hk2.call hbl3;have hk3':=hk3;unfold Am' at hk3') | (go_at_call 30;refine ((HM1 _ _ hv1 hk1).out).mono ?_;rintro e w2 ⟨v2,rfl,hv2,hbl2⟩;obtain ⟨C3,j3,C4,j4,rfl,-,-⟩:=id hv2.opened;have hk2:=hk1.call hbl2;have hk2':=hk2;unfold Am' at hk2') | (go_at_call 69;refine ((HR _ H0).out).mono ?_;rintro e w1 ⟨v1,rfl,hv1,hbl1⟩;obtain ⟨C1,j1,rfl,-⟩:=id hv1;have hk1:=H0.call hbl1;have hk1':=hk1;unfold Am' at hk1'))
   rename_i hHl
   clear hHl
   have hv2':=hv2.keep hbl3
   have HD:=hk3.done (p:=xl) (q:=xg) (s1:=decide (xl.num<0)) (A1:=C3) (n1:=len xl.num.natAbs) (c1:=j3) (A2:=C4) (n2:=len (below xl.den)) (c2:=j4) (s2:=decide (xg.num<0)) (A3:=C5) (n3:=len xg.num.natAbs) (c3:=j5) (A4:=C6) (n4:=len (below xg.den)) (c4:=j6) (hv2') (hv3)
   obtain ⟨d1,d2,d3⟩:=HD
   obtain ⟨r0,r1,r2,r3,r4,r5⟩:=Ae' d3
   have HD:=hid (And.intro d1 d2)
   clear d1 d2 d3
   go_wp2_with fail
   refine bP (v:=.tuple #[.agg #[.bool (decide (xl.num<0)),.slice (C3) (len xl.num.natAbs) (j3),.slice (C4) (len (below xl.den)) (j4),.bool (decide (xg.num<0)),.slice (C5) (len xg.num.natAbs) (j5),.slice (C6) (len (below xg.den)) (j6)],.int .i64 0]) ?_ rfl ⟨_,rfl,HD.out.1,Ae HB0.out (by omega) HD.out.2⟩
   simp [results,Tryz.results19,go_sem,r0,r1,r2,r3,r4,r5]
theorem kv1:Ap' ⟨#[45,49,50,46,53,48]⟩=(mkRat (-25) 2,0):=by decide +kernel
theorem kv2:Ap' ⟨#[45,50,47,54]⟩=(mkRat (-1) 3,0):=by decide +kernel
theorem kv3:Ap' ⟨#[48,49]⟩=(0,4):=by decide +kernel
theorem kt1:AH (mkRat (-25) 2)=[45,49,50,46,53]:=by decide +kernel
theorem kt2:AH (mkRat (-1) 3)=[45,49,47,51]:=by decide +kernel
theorem kt3:AH (-1)=[45,49]:=by decide +kernel
theorem kt4:AH 8=[56]:=by decide +kernel
theorem kt5:AH (mkRat 14 10)=[49,46,52]:=by decide +kernel
theorem kt6:AH (mkRat 15 10)=[49,46,53]:=by decide +kernel
theorem kt7:AH (-4)=[45,52]:=by decide +kernel
theorem G8 (a b:Int):sgn (!(decide (a<0)==decide (b<0))) a.natAbs=if b<0 then -a else a:=by
 unfold sgn
 by_cases h1:a<0 <;> by_cases h2:b<0 <;> simp [h1,h2] <;> omega
theorem Go' {w:World} {a:Int}:Calls Tryz.prog 72 #[.int .i64 a,.int .i64 0] w (AI w 0 10):=by
 obtain ⟨wB,hwB⟩:=eX (w.alloc (.cells #[.bool false,.slice none 0 0,.slice none 0 0] 33))
 have b0:Below w.heap.size w wB:=by rw [hwB];exact (Below.refl _ _).alloc (nL _) _
 have gB:wB.heap[w.heap.size]?=some (.cells #[.bool false,.slice none 0 0,.slice none 0 0] 33 (0,0)):=by rw [hwB];exact hA_ w _
 have HK0:=hid (Ai'.start (T:=33) rfl (Au _ _ _ _ _ _ _) gB)
 have HB0:=hid b0
 clear gB b0
 go_enter Tryz.func72,Tryz.ntmps72
 go_upto_region 2 with fail
 rw [←hwB]
 clear hwB
 have hk:=HK0.out.held (Aj.refl _)
 obtain ⟨-,c0,c1',c2',f0,f1,f2,-⟩:=id hk
 have HD:=hk.done (q:=0) (b:=false) (A1:=none) (n1:=0) (c1:=0) (A2:=none) (n2:=0) (c2:=0) (Bi' _)
 obtain ⟨d1,d2,d3⟩:=HD
 obtain ⟨r0,r1,r2⟩:=Ab' d3
 have HD:=hid (And.intro d1 d2)
 clear d1 d2 d3
 go_wp2_with fail
 refine bP (v:=.tuple #[.agg #[.bool (false),.slice (none) (0) (0),.slice (none) (0) (0)],.int .i64 10]) ?_ rfl ⟨_,rfl,HD.out.1,Ae HB0.out (nL _) HD.out.2⟩
 simp [results,Tryz.results72,go_sem,r0,r1,r2]
theorem Ih {w:World} {a b:Int} {q:Rat} (ha1 : -9223372036854775808≤a) (ha2:a≤9223372036854775807) (hb1 : -9223372036854775808≤b) (hb2:b≤9223372036854775807) (h:b≠0) (hq:mkRat (sgn (!(decide (a<0)==decide (b<0))) a.natAbs) b.natAbs=q) :
   Calls Tryz.prog 72 #[.int .i64 a,.int .i64 b] w (AI w q 0):=by
 obtain ⟨wB,hwB⟩:=eX (w.alloc (.cells #[.bool false,.slice none 0 0,.slice none 0 0] 33))
 have b0:Below w.heap.size w wB:=by rw [hwB];exact (Below.refl _ _).alloc (nL _) _
 have gB:wB.heap[w.heap.size]?=some (.cells #[.bool false,.slice none 0 0,.slice none 0 0] 33 (0,0)):=by rw [hwB];exact hA_ w _
 have HK0:=hid (Ai'.start (T:=33) rfl (Au _ _ _ _ _ _ _) gB)
 have HB0:=hid b0
 clear gB b0
 have hl1:len a.natAbs≤1:=Av (by rw [Nat.pow_one,Bh];omega)
 have hl2:len b.natAbs≤1:=Av (by rw [Nat.pow_one,Bh];omega)
 have HL:=hid (And.intro (nT hl1 (show 1≤1099511627776 by decide)) (And.intro (nT hl2 (show 1≤1099511627776 by decide)) (show 0<b.natAbs by omega)))
 have HA:=hid (DK' (w:=wB) a ha1 ha2)
 have HB:=fun w'=>hid (DK' (w:=w') b hb1 hb2)
 have HQ:=hid hq
 clear hl1 hl2 hq
 have hb0:(b==0)=false:=beq_eq_false_iff_ne.2 h
 go_enter Tryz.func72,Tryz.ntmps72
 go_upto_region 3 with fail
 rw [←hwB]
 clear hwB
 go_wp2_with fail
 refine (HA.out).mono ?_
 rintro e w1 ⟨v1,rfl,hv1,b1⟩
 have HB1:=HB w1
 have HK1:=hid (HK0.out.call b1)
 clear b1 HA HB
 go_wp2_with fail
 refine (HB1.out).mono ?_
 rintro e w2 ⟨v2,rfl,hv2,b2⟩
 have HK2:=hid (HK1.out.call b2)
 have HRD:=hid (Ci (neg := !(decide (a<0)==decide (b<0))) (hv1.keep b2) hv2 HL.out.2.2 HL.out.1 HL.out.2.1)
 rw [BV',HQ.out] at HRD
 clear b2 HB1 hv1 hv2
 go_wp2_with fail
 refine (HRD.out).mono ?_
 rintro e w6 ⟨v6,rfl,hv6,b6⟩
 obtain ⟨C1,j1,C2,j2,rfl,-,-⟩:=hv6.opened
 have hk:=(HK2.out.call b6).held (Aj.refl _)
 clear b6 HRD
 obtain ⟨-,c0,c1',c2',f0,f1,f2,-⟩:=id hk
 have HD:=hk.done (q:=q) (b:=decide (q.num<0)) (A1:=C1) (n1:=len q.num.natAbs) (c1:=j1) (A2:=C2) (n2:=len (below q.den)) (c2:=j2) (hv6)
 obtain ⟨d1,d2,d3⟩:=HD
 obtain ⟨r0,r1,r2⟩:=Ab' d3
 have HD:=hid (And.intro d1 d2)
 clear d1 d2 d3
 go_wp2_with fail
 refine bP (v:=.tuple #[.agg #[.bool (decide (q.num<0)),.slice (C1) (len q.num.natAbs) (j1),.slice (C2) (len (below q.den)) (j2)],.int .i64 0]) ?_ rfl ⟨_,rfl,HD.out.1,Ae HB0.out (nL _) HD.out.2⟩
 simp [results,Tryz.results72,go_sem,r0,r1,r2]
theorem Fb {w:World} {a b:Int} (ha1 : -9223372036854775808≤a) (ha2:a≤9223372036854775807) (hb1 : -9223372036854775808≤b) (hb2:b≤9223372036854775807) :
   Calls Tryz.prog 72 #[.int .i64 a,.int .i64 b] w (AI w (if b=0 then 0 else mkRat (if b<0 then -a else a) b.natAbs) (if b=0 then 10 else 0)):=by
 rcases Decidable.em (b=0) with h | h
 · subst h
   exact Go'
 · rw [if_neg h,if_neg h,←G8]
   exact Ih ha1 ha2 hb1 hb2 h rfl
theorem _root_.Go.Below.step {w1 w2 w3:World} (h:Below w1.heap.size w1 w2) (k:Below w2.heap.size w2 w3):Below w1.heap.size w1 w3:=h.trans (k.mono h.size)
theorem Ih' {w:World} {a b:Int} {q:Rat} (ha1 : -9223372036854775808≤a) (ha2:a≤9223372036854775807) (hb1 : -9223372036854775808≤b) (hb2:b≤9223372036854775807) (hq:(if b=0 then 0 else mkRat (if b<0 then -a else a) b.natAbs)=q) :
   Calls Tryz.prog 20 #[.int .i64 a,.int .i64 b] w (Ar' w q):=by
 obtain ⟨wB,hwB⟩:=eX (w.alloc (.cells #[.bool false,.slice none 0 0,.slice none 0 0] 33))
 have b0:Below w.heap.size w wB:=by rw [hwB];exact (Below.refl _ _).alloc (nL _) _
 have gB:wB.heap[w.heap.size]?=some (.cells #[.bool false,.slice none 0 0,.slice none 0 0] 33 (0,0)):=by rw [hwB];exact hA_ w _
 have HK0:=hid (Ai'.start (T:=33) rfl (Au _ _ _ _ _ _ _) gB)
 have HB0:=hid b0
 have HX:=hid (Fb (w:=wB) ha1 ha2 hb1 hb2)
 rw [hq] at HX
 obtain ⟨c,hc⟩:∃ c:Int,c=if b=0 then 10 else 0:=⟨_,rfl⟩
 rw [←hc] at HX
 clear hc hq ha1 ha2 hb1 hb2 gB b0
 go_enter Tryz.func20,Tryz.ntmps20
 go_upto_region 1 with fail
 rw [←hwB]
 clear hwB
 go_wp2_with fail
 refine (HX.out).mono ?_
 rintro e w2 ⟨v2,rfl,hv2,b2⟩
 obtain ⟨B1,e1,B2,e2,rfl,-,-⟩:=hv2.opened
 have HK2:=hid (HK0.out.call b2)
 go_upto_region 2 with fail
 obtain ⟨w3,hw3⟩:=eX (w2.alloc (.cells #[.bool (decide (q.num<0)),.slice B1 (len q.num.natAbs) e1,.slice B2 (len (below q.den)) e2] 33))
 have b3:Below w2.heap.size w2 w3:=by rw [hw3];exact (Below.refl _ _).alloc (nL _) _
 have g3:w3.heap[w2.heap.size]?=some (.cells #[.bool (decide (q.num<0)),.slice B1 (len q.num.natAbs) e1,.slice B2 (len (below q.den)) e2] 33 (0,0)):=by rw [hw3];exact hA_ w2 _
 obtain ⟨p0,p1,p2⟩:=Ab' g3
 have hk:=(HK2.out.call b3).held (Aj.refl _)
 have hv3:=hv2.keep b3
 rw [←hw3]
 clear hw3 g3 b3 b2 HX
 obtain ⟨-,c0,c1',c2',f0,f1,f2,-⟩:=id hk
 have HD:=hk.done (q:=q) (b:=decide (q.num<0)) (A1:=B1) (n1:=len q.num.natAbs) (c1:=e1) (A2:=B2) (n2:=len (below q.den)) (c2:=e2) (hv3)
 obtain ⟨d1,d2,d3⟩:=HD
 obtain ⟨r0,r1,r2⟩:=Ab' d3
 have HD:=hid (And.intro d1 d2)
 clear d1 d2 d3
 go_wp2_with fail
 refine bP (v:=.agg #[.bool (decide (q.num<0)),.slice (B1) (len q.num.natAbs) (e1),.slice (B2) (len (below q.den)) (e2)]) ?_ rfl ⟨_,rfl,HD.out.1,Ae HB0.out (nL _) HD.out.2⟩
 simp [results,Tryz.results20,go_sem,r0,r1,r2]
def AM' (w:World) (b o:Nat) (l:List ByteArray):Prop:=∀ (i:Nat) (s:ByteArray),l[i]?=some s→w.cell? ⟨b,o+i,none⟩=some (.string s)
end Go.Proofs.YtbigkkjnhcpgiaaGreatDoor
