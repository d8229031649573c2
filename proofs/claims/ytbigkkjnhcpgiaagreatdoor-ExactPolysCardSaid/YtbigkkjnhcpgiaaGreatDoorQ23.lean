/-
  Contracts of the functions that the law calls, for every input (KnC).
-/
import Derived.Test.YtbigkkjnhcpgiaaGreatDoorQ00
import Derived.Test.YtbigkkjnhcpgiaaGreatDoorQ22
set_option linter.all false
set_option maxRecDepth 100000
set_option maxHeartbeats 40000000
namespace Go.Proofs.YtbigkkjnhcpgiaaGreatDoor
open Lib (hid)
open Go.RowKit
open Vx
theorem Dl {w:World} {s:ByteArray} {mx:Int} {q:Rat} {c:Int} (hM:w.cell? ⟨1,0,none⟩=some (.int .i64 mx)) (h:Ap' s=(q,c)) :
   Calls Tryz.prog 13 #[.string s] w (AI w q c):=by
 have:=Dj' (s:=s) hM
 rw [h] at this
 exact this
theorem Br {w:World} {vx:Value} {x:Rat} {l:List UInt8} (hx:Ac' w vx x) (h:AH x=l) (hs:Aa' x≤536870912) (hT:TabAt 0 Lib.deBruijn64tab w) :
   Calls Tryz.prog 14 #[vx] w (A9' w l):=by
 rw [←h];exact Db' hx hs hT
theorem Fb' {w:World} {vx vy:Value} {x y:Rat} (hx:Ac' w vx x) (hy:Ac' w vy y) (h:Aa' x≤3∧Aa' y≤3∧x≤y) :
   Calls Tryz.prog 15 #[vx,vy] w (Ba w x y 0):=DM' hx hy (by omega) (by omega) h.2.2
theorem BJ {w:World} {n:Int} {q:Rat} (h1 : -9223372036854775808≤n) (h2:n≤9223372036854775807) (h:(n:Rat)=q):Calls Tryz.prog 16 #[.int .i64 n] w (Ar' w q):=by
 rw [←h];exact GW' n h1 h2
theorem Ii {w:World} {v:Value} {a b p q:Rat} (hv:Ao' w v a b) (h:Aa' a≤3∧Aa' b≤3∧a^3=p∧b^3=q) :
   Calls Tryz.prog 17 #[v,.int .i64 3] w (Ba w p q 0):=by
 have:=Gn (n:=3) hv (by omega) rfl (by omega) (by omega)
 rw [h.2.2.1,h.2.2.2] at this
 exact this
theorem IW {w:World} {v u:Value} {a b c d p q:Rat} (hv:Ao' w v a b) (hu:Ao' w u c d) (h:(Aa' a≤3∧Aa' b≤3∧Aa' c≤3∧Aa' d≤3)∧leastOf (a*c) [a*d,b*c,b*d]=p∧greatestOf (a*c) [a*d,b*c,b*d]=q) :
   Calls Tryz.prog 23 #[v,u] w (Bk' w p q):=by
 have:=D2' hv hu (by omega) (by omega) (by omega) (by omega)
 rw [h.2.1,h.2.2] at this
 exact this
theorem Ii' {w:World} {v vg:Value} {a g p q:Rat} (hv:Ao' w v a a) (hg:Ac' w vg g) (h:(Aa' a≤3∧Aa' g≤10)∧0<g.num∧0≤a.num∧p=((rootOf (Co (a / (g*g))).num.natAbs:Nat):Rat)*g∧q=((CO' (-Co (-(a / (g*g)))).num.natAbs:Nat):Rat)*g) :
   Calls Tryz.prog 19 #[v,vg] w (Ba w p q 0) :=
 Gn' hv hg (by omega) (by omega) (by omega) h.2.1 h.2.2.1 rfl rfl rfl rfl rfl rfl rfl h.2.2.2.1 h.2.2.2.2
theorem Jk':Aa' (-1)≤3∧Aa' 2≤3∧(-1:Rat)^3 = -1∧(2:Rat)^3=8:=by decide +kernel
theorem kn_ab:Aa' (-1)≤3∧Aa' 2≤3∧(-1:Rat)≤2:=by decide +kernel
theorem kn_cd:Aa' 3≤3∧Aa' 4≤3∧(3:Rat)≤4:=by decide +kernel
theorem Jl:(Aa' (-1)≤3∧Aa' 2≤3∧Aa' 3≤3∧Aa' 4≤3)∧leastOf ((-1:Rat)*3) [-1*4,2*3,2*4] = -4∧greatestOf ((-1:Rat)*3) [-1*4,2*3,2*4]=8:=by decide +kernel
theorem G8':Co (2 / (mkRat 1 10*mkRat 1 10))=200 ∧ -Co (-(2 / (mkRat 1 10*mkRat 1 10)))=200:=by decide +kernel
theorem kn_rt:rootOf 200=14:=Nat.le_antisymm (by
   have h:=Dr 200
   rcases Nat.lt_or_ge 14 (rootOf 200) with h2 | h2
   · have:=Nat.mul_le_mul h2 h2
     omega
   · exact h2) (DG' (by omega))
theorem IW':(Aa' 2≤3∧Aa' (mkRat 1 10)≤10)∧0<(mkRat 1 10).num∧0≤(2:Rat).num∧mkRat 14 10=((rootOf (Co (2 / (mkRat 1 10*mkRat 1 10))).num.natAbs:Nat):Rat)*mkRat 1 10∧mkRat 15 10=((CO' (-Co (-(2 / (mkRat 1 10*mkRat 1 10)))).num.natAbs:Nat):Rat)*mkRat 1 10:=by
 have e:(200:Rat).num.natAbs=200:=by decide +kernel
 rw [G8'.1,G8'.2,e]
 unfold CO'
 rw [kn_rt,if_pos (by omega)]
 exact ⟨by decide +kernel,by decide +kernel,by decide +kernel,by decide +kernel,by decide +kernel⟩
theorem Cl:Aa' (mkRat (-25) 2)≤99∧Aa' (mkRat (-1) 3)≤99∧Aa' (-1)≤99∧Aa' 8≤99∧Aa' (mkRat 14 10)≤99∧Aa' (mkRat 15 10)≤99∧Aa' (-4)≤99∧Aa' 2≤99:=by decide +kernel
theorem AQ' {w:World} {mx:Int} (hM:w.cell? ⟨1,0,none⟩=some (.int .i64 mx)) (hT:TabAt 0 Lib.deBruijn64tab w) :
   Calls Tryz.prog 4 #[] w (At' w true):=by
 obtain ⟨qx,e_qx⟩:=eX (mkRat (-25) 2:Rat)
 obtain ⟨qy,e_qy⟩:=eX (mkRat (-1) 3:Rat)
 obtain ⟨qa,e_qa⟩:=eX ((-1):Rat)
 obtain ⟨qb,e_qb⟩:=eX (2:Rat)
 obtain ⟨qc,e_qc⟩:=eX (3:Rat)
 obtain ⟨qd,e_qd⟩:=eX (4:Rat)
 obtain ⟨qp,e_qp⟩:=eX ((8:Rat):Rat)
 obtain ⟨ql,e_ql⟩:=eX (mkRat 14 10:Rat)
 obtain ⟨qh,e_qh⟩:=eX (mkRat 15 10:Rat)
 obtain ⟨qm,e_qm⟩:=eX ((-4):Rat)
 obtain ⟨qg,e_qg⟩:=eX (mkRat 1 10:Rat)
 obtain ⟨qz,e_qz⟩:=eX ((0:Rat):Rat)
 have pv1:Hid (Ap' ⟨#[45,49,50,46,53,48]⟩=(qx,0)):=by show _;rw [e_qx];exact kv1
 have pv2:Hid (Ap' ⟨#[45,50,47,54]⟩=(qy,0)):=by show _;rw [e_qy];exact kv2
 have pv3:Hid (Ap' ⟨#[48,49]⟩=(qz,4)):=by show _;rw [e_qz];exact kv3
 have t_qx:Hid (AH qx=[45,49,50,46,53]):=by show _;rw [e_qx];exact kt1
 have s_qx:Hid (Aa' qx≤536870912):=by show _;rw [e_qx];exact nT Cl.1 (by omega)
 have t_qy:Hid (AH qy=[45,49,47,51]):=by show _;rw [e_qy];exact kt2
 have s_qy:Hid (Aa' qy≤536870912):=by show _;rw [e_qy];exact nT Cl.2.1 (by omega)
 have t_qa:Hid (AH qa=[45,49]):=by show _;rw [e_qa];exact kt3
 have s_qa:Hid (Aa' qa≤536870912):=by show _;rw [e_qa];exact nT Cl.2.2.1 (by omega)
 have t_qp:Hid (AH qp=[56]):=by show _;rw [e_qp];exact kt4
 have s_qp:Hid (Aa' qp≤536870912):=by show _;rw [e_qp];exact nT Cl.2.2.2.1 (by omega)
 have t_ql:Hid (AH ql=[49,46,52]):=by show _;rw [e_ql];exact kt5
 have s_ql:Hid (Aa' ql≤536870912):=by show _;rw [e_ql];exact nT Cl.2.2.2.2.1 (by omega)
 have t_qh:Hid (AH qh=[49,46,53]):=by show _;rw [e_qh];exact kt6
 have s_qh:Hid (Aa' qh≤536870912):=by show _;rw [e_qh];exact nT Cl.2.2.2.2.2.1 (by omega)
 have t_qm:Hid (AH qm=[45,52]):=by show _;rw [e_qm];exact kt7
 have s_qm:Hid (Aa' qm≤536870912):=by show _;rw [e_qm];exact nT Cl.2.2.2.2.2.2.1 (by omega)
 have e_w1:Hid (((-1:Int):Rat)=qa):=by show _;rw [e_qa];rfl
 have e_w2:Hid (((2:Int):Rat)=qb):=by show _;rw [e_qb];rfl
 have e_w3:Hid (((3:Int):Rat)=qc):=by show _;rw [e_qc];rfl
 have e_w4:Hid (((4:Int):Rat)=qd):=by show _;rw [e_qd];rfl
 have k_ab:Hid (Aa' qa≤3∧Aa' qb≤3∧qa≤qb):=by show _;rw [e_qa,e_qb];exact kn_ab
 have k_cd:Hid (Aa' qc≤3∧Aa' qd≤3∧qc≤qd):=by show _;rw [e_qc,e_qd];exact kn_cd
 have k_pow:Hid (Aa' qa≤3∧Aa' qb≤3∧qa^3=qa∧qb^3=qp):=by show _;rw [e_qa,e_qb,e_qp];exact Jk'
 have k_mul:Hid ((Aa' qa≤3∧Aa' qb≤3∧Aa' qc≤3∧Aa' qd≤3)∧leastOf (qa*qc) [qa*qd,qb*qc,qb*qd]=qm∧greatestOf (qa*qc) [qa*qd,qb*qc,qb*qd]=qp):=by show _;rw [e_qa,e_qb,e_qc,e_qd,e_qm,e_qp];exact Jl
 have k_root:Hid ((Aa' qb≤3∧Aa' qg≤10)∧0<qg.num∧0≤qb.num∧ql=((rootOf (Co (qb / (qg*qg))).num.natAbs:Nat):Rat)*qg∧qh=((CO' (-Co (-(qb / (qg*qg)))).num.natAbs:Nat):Rat)*qg):=by show _;rw [e_qb,e_qg,e_ql,e_qh];exact IW'
 have k_g:Hid ((if (10:Int)=0 then 0 else mkRat (if (10:Int)<0 then -1 else 1) (10:Int).natAbs)=qg):=by show _;rw [e_qg];rfl
 have s_qb:Hid (Aa' qb≤1099511627776):=by show _;rw [e_qb];exact nT Cl.2.2.2.2.2.2.2 (by omega)
 clear e_qx e_qy e_qa e_qb e_qc e_qd e_qp e_ql e_qh e_qm e_qg e_qz
 replace hM:=hid hM
 replace hT:=hid hT
 go_enter Tryz.func4,Tryz.ntmps4
 have HX:=hid (Dl hM.out pv1.out)
 go_wp2_with fail
 refine (HX.out).mono ?_
 rintro e w1 ⟨v1,rfl,hv1,b1⟩
 obtain ⟨C1,j1,C2,j2,rfl,-,-⟩:=id hv1.opened
 replace hv1:=hid hv1
 replace b1:=hid b1
 clear HX
 go_upto_region 2 with fail
 obtain ⟨w2,hw2⟩:=eX (w1.alloc (.cells #[.bool (decide (qx.num<0)),.slice C1 (len qx.num.natAbs) j1,.slice C2 (len (below qx.den)) j2] 33))
 have b2:Hid (Below w1.heap.size w1 w2):=by rw [hw2];exact (Below.refl _ _).alloc (nL _) _
 have L2:Hid (w2.heap[w1.heap.size]?=some (.cells #[.bool (decide (qx.num<0)),.slice C1 (len qx.num.natAbs) j1,.slice C2 (len (below qx.den)) j2] 33 (0,0))):=by rw [hw2];exact hA_ w1 _
 rw [←hw2]
 clear hw2
 have HX:=hid (Dl (((bS b1.out b2.out).cell (p:=⟨1,0,none⟩) (bL w _ hM.out)).trans hM.out) pv2.out)
 go_wp2_with fail
 refine (HX.out).mono ?_
 rintro e w3 ⟨v3,rfl,hv3,b3⟩
 obtain ⟨C3,j3,C4,j4,rfl,-,-⟩:=id hv3.opened
 replace hv3:=hid hv3
 replace b3:=hid b3
 clear HX
 go_upto_region 3 with fail
 obtain ⟨w4,hw4⟩:=eX (w3.alloc (.cells #[.bool (decide (qy.num<0)),.slice C3 (len qy.num.natAbs) j3,.slice C4 (len (below qy.den)) j4] 33))
 have b4:Hid (Below w3.heap.size w3 w4):=by rw [hw4];exact (Below.refl _ _).alloc (nL _) _
 have L4:Hid (w4.heap[w3.heap.size]?=some (.cells #[.bool (decide (qy.num<0)),.slice C3 (len qy.num.natAbs) j3,.slice C4 (len (below qy.den)) j4] 33 (0,0))):=by rw [hw4];exact hA_ w3 _
 rw [←hw4]
 clear hw4
 have HX:=hid (Dl (((bS (bS (bS b1.out b2.out) b3.out) b4.out).cell (p:=⟨1,0,none⟩) (bL w _ hM.out)).trans hM.out) pv3.out)
 go_wp2_with fail
 refine (HX.out).mono ?_
 rintro e w5 ⟨v5,rfl,hv5,b5⟩
 obtain ⟨C5,j5,C6,j6,rfl,-,-⟩:=id hv5.opened
 replace hv5:=hid hv5
 replace b5:=hid b5
 clear HX
 go_upto_region 4 with fail
 obtain ⟨w6,hw6⟩:=eX (w5.alloc (.cells #[.bool (decide (qz.num<0)),.slice C5 (len qz.num.natAbs) j5,.slice C6 (len (below qz.den)) j6] 33))
 have b6:Hid (Below w5.heap.size w5 w6):=by rw [hw6];exact (Below.refl _ _).alloc (nL _) _
 have L6:Hid (w6.heap[w5.heap.size]?=some (.cells #[.bool (decide (qz.num<0)),.slice C5 (len qz.num.natAbs) j5,.slice C6 (len (below qz.den)) j6] 33 (0,0))):=by rw [hw6];exact hA_ w5 _
 rw [←hw6]
 clear hw6
 have hg:w6.heap[w1.heap.size]?=some (.cells #[.bool (decide (qx.num<0)),.slice C1 (len qx.num.natAbs) j1,.slice C2 (len (below qx.den)) j2] 33 (0,0)):=((bS (bS (bS b3.out b4.out) b5.out) b6.out).block _ (gE.1 L2.out).1).trans L2.out
 obtain ⟨z_x_0,z_x_1,z_x_2⟩:=Ab' hg
 clear hg
 have HX:=hid (Br (hv1.out.keep (bS (bS (bS (bS b2.out b3.out) b4.out) b5.out) b6.out)) t_qx.out s_qx.out (Aq hT.out (bS (bS (bS (bS (bS b1.out b2.out) b3.out) b4.out) b5.out) b6.out)))
 go_wp2_with fail
 refine (HX.out).mono ?_
 rintro e w7 ⟨rfl,b7⟩
 replace b7:=hid b7
 clear HX
 clear z_x_0 z_x_1 z_x_2
 have hg:w7.heap[w3.heap.size]?=some (.cells #[.bool (decide (qy.num<0)),.slice C3 (len qy.num.natAbs) j3,.slice C4 (len (below qy.den)) j4] 33 (0,0)):=((bS (bS b5.out b6.out) b7.out).block _ (gE.1 L4.out).1).trans L4.out
 obtain ⟨z_y_0,z_y_1,z_y_2⟩:=Ab' hg
 clear hg
 have HX:=hid (Br (hv3.out.keep (bS (bS (bS b4.out b5.out) b6.out) b7.out)) t_qy.out s_qy.out (Aq hT.out (bS (bS (bS (bS (bS (bS b1.out b2.out) b3.out) b4.out) b5.out) b6.out) b7.out)))
 go_wp2_with fail
 refine (HX.out).mono ?_
 rintro e w8 ⟨rfl,b8⟩
 replace b8:=hid b8
 clear HX
 clear z_y_0 z_y_1 z_y_2
 have HX:=hid (BJ (w:=w8) (by omega) (by omega) e_w1.out)
 go_wp2_with fail
 refine (HX.out).mono ?_
 rintro e w9 ⟨v9,rfl,hv9,b9⟩
 obtain ⟨C7,j7,C8,j8,rfl,-,-⟩:=id hv9.opened
 replace hv9:=hid hv9
 replace b9:=hid b9
 clear HX
 have HX:=hid (BJ (w:=w9) (by omega) (by omega) e_w2.out)
 go_wp2_with fail
 refine (HX.out).mono ?_
 rintro e w10 ⟨v10,rfl,hv10,b10⟩
 obtain ⟨C9,j9,C10,j10,rfl,-,-⟩:=id hv10.opened
 replace hv10:=hid hv10
 replace b10:=hid b10
 clear HX
 have HX:=hid (Fb' (hv9.out.keep b10.out) hv10.out k_ab.out)
 go_wp2_with fail
 refine (HX.out).mono ?_
 rintro e w11 ⟨v11,rfl,hv11,b11⟩
 obtain ⟨C11,j11,C12,j12,C13,j13,C14,j14,rfl,hp11,hq11⟩:=id hv11.opened
 replace hv11:=hid hv11
 clear hp11 hq11
 replace b11:=hid b11
 clear HX
 go_upto_region 7 with fail
 obtain ⟨w12,hw12⟩:=eX (w11.alloc (.cells #[.bool (decide (qa.num<0)),.slice C11 (len qa.num.natAbs) j11,.slice C12 (len (below qa.den)) j12,.bool (decide (qb.num<0)),.slice C13 (len qb.num.natAbs) j13,.slice C14 (len (below qb.den)) j14] 35))
 have b12:Hid (Below w11.heap.size w11 w12):=by rw [hw12];exact (Below.refl _ _).alloc (nL _) _
 have L12:Hid (w12.heap[w11.heap.size]?=some (.cells #[.bool (decide (qa.num<0)),.slice C11 (len qa.num.natAbs) j11,.slice C12 (len (below qa.den)) j12,.bool (decide (qb.num<0)),.slice C13 (len qb.num.natAbs) j13,.slice C14 (len (below qb.den)) j14] 35 (0,0))):=by rw [hw12];exact hA_ w11 _
 rw [←hw12]
 clear hw12
 have HX:=hid (BJ (w:=w12) (by omega) (by omega) e_w3.out)
 go_wp2_with fail
 refine (HX.out).mono ?_
 rintro e w13 ⟨v13,rfl,hv13,b13⟩
 obtain ⟨C15,j15,C16,j16,rfl,-,-⟩:=id hv13.opened
 replace hv13:=hid hv13
 replace b13:=hid b13
 clear HX
 have HX:=hid (BJ (w:=w13) (by omega) (by omega) e_w4.out)
 go_wp2_with fail
 refine (HX.out).mono ?_
 rintro e w14 ⟨v14,rfl,hv14,b14⟩
 obtain ⟨C17,j17,C18,j18,rfl,-,-⟩:=id hv14.opened
 replace hv14:=hid hv14
 replace b14:=hid b14
 clear HX
 have HX:=hid (Fb' (hv13.out.keep b14.out) hv14.out k_cd.out)
 go_wp2_with fail
 refine (HX.out).mono ?_
 rintro e w15 ⟨v15,rfl,hv15,b15⟩
 obtain ⟨C19,j19,C20,j20,C21,j21,C22,j22,rfl,hp15,hq15⟩:=id hv15.opened
 replace hv15:=hid hv15
 clear hp15 hq15
 replace b15:=hid b15
 clear HX
 go_upto_region 8 with fail
 obtain ⟨w16,hw16⟩:=eX (w15.alloc (.cells #[.bool (decide (qc.num<0)),.slice C19 (len qc.num.natAbs) j19,.slice C20 (len (below qc.den)) j20,.bool (decide (qd.num<0)),.slice C21 (len qd.num.natAbs) j21,.slice C22 (len (below qd.den)) j22] 35))
 have b16:Hid (Below w15.heap.size w15 w16):=by rw [hw16];exact (Below.refl _ _).alloc (nL _) _
 have L16:Hid (w16.heap[w15.heap.size]?=some (.cells #[.bool (decide (qc.num<0)),.slice C19 (len qc.num.natAbs) j19,.slice C20 (len (below qc.den)) j20,.bool (decide (qd.num<0)),.slice C21 (len qd.num.natAbs) j21,.slice C22 (len (below qd.den)) j22] 35 (0,0))):=by rw [hw16];exact hA_ w15 _
 rw [←hw16]
 clear hw16
 have hg:w16.heap[w11.heap.size]?=some (.cells #[.bool (decide (qa.num<0)),.slice C11 (len qa.num.natAbs) j11,.slice C12 (len (below qa.den)) j12,.bool (decide (qb.num<0)),.slice C13 (len qb.num.natAbs) j13,.slice C14 (len (below qb.den)) j14] 35 (0,0)):=((bS (bS (bS b13.out b14.out) b15.out) b16.out).block _ (gE.1 L12.out).1).trans L12.out
 obtain ⟨z_a_0,z_a_1,z_a_2,z_a_3,z_a_4,z_a_5⟩:=Ae' hg
 clear hg
 have HX:=hid (Ii (hv11.out.keep (bS (bS (bS (bS b12.out b13.out) b14.out) b15.out) b16.out)) k_pow.out)
 go_wp2_with fail
 refine (HX.out).mono ?_
 rintro e w17 ⟨v17,rfl,hv17,b17⟩
 obtain ⟨C23,j23,C24,j24,C25,j25,C26,j26,rfl,hp17,hq17⟩:=id hv17.opened
 replace hv17:=hid hv17
 clear hp17 hq17
 replace b17:=hid b17
 clear HX
 clear z_a_0 z_a_1 z_a_2 z_a_3 z_a_4 z_a_5
 go_upto_region 9 with fail
 obtain ⟨w18,hw18⟩:=eX (w17.alloc (.cells #[.bool (decide (qa.num<0)),.slice C23 (len qa.num.natAbs) j23,.slice C24 (len (below qa.den)) j24,.bool (decide (qp.num<0)),.slice C25 (len qp.num.natAbs) j25,.slice C26 (len (below qp.den)) j26] 35))
 have b18:Hid (Below w17.heap.size w17 w18):=by rw [hw18];exact (Below.refl _ _).alloc (nL _) _
 have L18:Hid (w18.heap[w17.heap.size]?=some (.cells #[.bool (decide (qa.num<0)),.slice C23 (len qa.num.natAbs) j23,.slice C24 (len (below qa.den)) j24,.bool (decide (qp.num<0)),.slice C25 (len qp.num.natAbs) j25,.slice C26 (len (below qp.den)) j26] 35 (0,0))):=by rw [hw18];exact hA_ w17 _
 rw [←hw18]
 clear hw18
 have HX:=hid (BJ (w:=w18) (by omega) (by omega) e_w2.out)
 go_wp2_with fail
 refine (HX.out).mono ?_
 rintro e w19 ⟨v19,rfl,hv19,b19⟩
 obtain ⟨C27,j27,C28,j28,rfl,-,-⟩:=id hv19.opened
 replace hv19:=hid hv19
 replace b19:=hid b19
 clear HX
 have HX:=hid (Ex' hv19.out s_qb.out)
 go_wp2_with fail
 refine (HX.out).mono ?_
 rintro e w20 ⟨v20,rfl,hv20,b20⟩
 obtain ⟨C29,j29,C30,j30,C31,j31,C32,j32,rfl,hp20,hq20⟩:=id hv20.opened
 replace hv20:=hid hv20
 clear hp20 hq20
 replace b20:=hid b20
 clear HX
 have HX:=hid (Ih' (w:=w20) (a:=1) (b:=10) (by omega) (by omega) (by omega) (by omega) k_g.out)
 go_wp2_with fail
 refine (HX.out).mono ?_
 rintro e w21 ⟨v21,rfl,hv21,b21⟩
 obtain ⟨C33,j33,C34,j34,rfl,-,-⟩:=id hv21.opened
 replace hv21:=hid hv21
 replace b21:=hid b21
 clear HX
 have HX:=hid (Ii' (hv20.out.keep b21.out) hv21.out k_root.out)
 go_wp2_with fail
 refine (HX.out).mono ?_
 rintro e w22 ⟨v22,rfl,hv22,b22⟩
 obtain ⟨C35,j35,C36,j36,C37,j37,C38,j38,rfl,hp22,hq22⟩:=id hv22.opened
 replace hv22:=hid hv22
 clear hp22 hq22
 replace b22:=hid b22
 clear HX
 go_upto_region 10 with fail
 obtain ⟨w23,hw23⟩:=eX (w22.alloc (.cells #[.bool (decide (ql.num<0)),.slice C35 (len ql.num.natAbs) j35,.slice C36 (len (below ql.den)) j36,.bool (decide (qh.num<0)),.slice C37 (len qh.num.natAbs) j37,.slice C38 (len (below qh.den)) j38] 35))
 have b23:Hid (Below w22.heap.size w22 w23):=by rw [hw23];exact (Below.refl _ _).alloc (nL _) _
 have L23:Hid (w23.heap[w22.heap.size]?=some (.cells #[.bool (decide (ql.num<0)),.slice C35 (len ql.num.natAbs) j35,.slice C36 (len (below ql.den)) j36,.bool (decide (qh.num<0)),.slice C37 (len qh.num.natAbs) j37,.slice C38 (len (below qh.den)) j38] 35 (0,0))):=by rw [hw23];exact hA_ w22 _
 rw [←hw23]
 clear hw23
 have hg:w23.heap[w17.heap.size]?=some (.cells #[.bool (decide (qa.num<0)),.slice C23 (len qa.num.natAbs) j23,.slice C24 (len (below qa.den)) j24,.bool (decide (qp.num<0)),.slice C25 (len qp.num.natAbs) j25,.slice C26 (len (below qp.den)) j26] 35 (0,0)):=((bS (bS (bS (bS b19.out b20.out) b21.out) b22.out) b23.out).block _ (gE.1 L18.out).1).trans L18.out
 obtain ⟨z_p_0,z_p_1,z_p_2,z_p_3,z_p_4,z_p_5⟩:=Ae' hg
 clear hg
 have HX:=hid (Ck (hv17.out.keep (bS (bS (bS (bS (bS b18.out b19.out) b20.out) b21.out) b22.out) b23.out)) (nT s_qa.out (by omega)))
 go_wp2_with fail
 refine (HX.out).mono ?_
 rintro e w24 ⟨v24,rfl,hv24,b24⟩
 obtain ⟨C39,j39,C40,j40,rfl,-,-⟩:=id hv24.opened
 replace hv24:=hid hv24
 replace b24:=hid b24
 clear HX
 clear z_p_0 z_p_1 z_p_2 z_p_3 z_p_4 z_p_5
 have HX:=hid (Br hv24.out t_qa.out s_qa.out (Aq hT.out (bS (bS (bS (bS (bS (bS (bS (bS (bS (bS (bS (bS (bS (bS (bS (bS (bS (bS (bS (bS (bS (bS (bS b1.out b2.out) b3.out) b4.out) b5.out) b6.out) b7.out) b8.out) b9.out) b10.out) b11.out) b12.out) b13.out) b14.out) b15.out) b16.out) b17.out) b18.out) b19.out) b20.out) b21.out) b22.out) b23.out) b24.out)))
 go_wp2_with fail
 refine (HX.out).mono ?_
 rintro e w25 ⟨rfl,b25⟩
 replace b25:=hid b25
 clear HX
 have hg:w25.heap[w17.heap.size]?=some (.cells #[.bool (decide (qa.num<0)),.slice C23 (len qa.num.natAbs) j23,.slice C24 (len (below qa.den)) j24,.bool (decide (qp.num<0)),.slice C25 (len qp.num.natAbs) j25,.slice C26 (len (below qp.den)) j26] 35 (0,0)):=((bS (bS (bS (bS (bS (bS b19.out b20.out) b21.out) b22.out) b23.out) b24.out) b25.out).block _ (gE.1 L18.out).1).trans L18.out
 obtain ⟨z_p_0,z_p_1,z_p_2,z_p_3,z_p_4,z_p_5⟩:=Ae' hg
 clear hg
 have HX:=hid (Ck' (hv17.out.keep (bS (bS (bS (bS (bS (bS (bS b18.out b19.out) b20.out) b21.out) b22.out) b23.out) b24.out) b25.out)) (nT s_qp.out (by omega)))
 go_wp2_with fail
 refine (HX.out).mono ?_
 rintro e w26 ⟨v26,rfl,hv26,b26⟩
 obtain ⟨C41,j41,C42,j42,rfl,-,-⟩:=id hv26.opened
 replace hv26:=hid hv26
 replace b26:=hid b26
 clear HX
 clear z_p_0 z_p_1 z_p_2 z_p_3 z_p_4 z_p_5
 have HX:=hid (Br hv26.out t_qp.out s_qp.out (Aq hT.out (bS (bS (bS (bS (bS (bS (bS (bS (bS (bS (bS (bS (bS (bS (bS (bS (bS (bS (bS (bS (bS (bS (bS (bS (bS b1.out b2.out) b3.out) b4.out) b5.out) b6.out) b7.out) b8.out) b9.out) b10.out) b11.out) b12.out) b13.out) b14.out) b15.out) b16.out) b17.out) b18.out) b19.out) b20.out) b21.out) b22.out) b23.out) b24.out) b25.out) b26.out)))
 go_wp2_with fail
 refine (HX.out).mono ?_
 rintro e w27 ⟨rfl,b27⟩
 replace b27:=hid b27
 clear HX
 have hg:w27.heap[w22.heap.size]?=some (.cells #[.bool (decide (ql.num<0)),.slice C35 (len ql.num.natAbs) j35,.slice C36 (len (below ql.den)) j36,.bool (decide (qh.num<0)),.slice C37 (len qh.num.natAbs) j37,.slice C38 (len (below qh.den)) j38] 35 (0,0)):=((bS (bS (bS b24.out b25.out) b26.out) b27.out).block _ (gE.1 L23.out).1).trans L23.out
 obtain ⟨z_r_0,z_r_1,z_r_2,z_r_3,z_r_4,z_r_5⟩:=Ae' hg
 clear hg
 have HX:=hid (Ck (hv22.out.keep (bS (bS (bS (bS b23.out b24.out) b25.out) b26.out) b27.out)) (nT s_ql.out (by omega)))
 go_wp2_with fail
 refine (HX.out).mono ?_
 rintro e w28 ⟨v28,rfl,hv28,b28⟩
 obtain ⟨C43,j43,C44,j44,rfl,-,-⟩:=id hv28.opened
 replace hv28:=hid hv28
 replace b28:=hid b28
 clear HX
 clear z_r_0 z_r_1 z_r_2 z_r_3 z_r_4 z_r_5
 have HX:=hid (Br hv28.out t_ql.out s_ql.out (Aq hT.out (bS (bS (bS (bS (bS (bS (bS (bS (bS (bS (bS (bS (bS (bS (bS (bS (bS (bS (bS (bS (bS (bS (bS (bS (bS (bS (bS b1.out b2.out) b3.out) b4.out) b5.out) b6.out) b7.out) b8.out) b9.out) b10.out) b11.out) b12.out) b13.out) b14.out) b15.out) b16.out) b17.out) b18.out) b19.out) b20.out) b21.out) b22.out) b23.out) b24.out) b25.out) b26.out) b27.out) b28.out)))
 go_wp2_with fail
 refine (HX.out).mono ?_
 rintro e w29 ⟨rfl,b29⟩
 replace b29:=hid b29
 clear HX
 have hg:w29.heap[w22.heap.size]?=some (.cells #[.bool (decide (ql.num<0)),.slice C35 (len ql.num.natAbs) j35,.slice C36 (len (below ql.den)) j36,.bool (decide (qh.num<0)),.slice C37 (len qh.num.natAbs) j37,.slice C38 (len (below qh.den)) j38] 35 (0,0)):=((bS (bS (bS (bS (bS b24.out b25.out) b26.out) b27.out) b28.out) b29.out).block _ (gE.1 L23.out).1).trans L23.out
 obtain ⟨z_r_0,z_r_1,z_r_2,z_r_3,z_r_4,z_r_5⟩:=Ae' hg
 clear hg
 have HX:=hid (Ck' (hv22.out.keep (bS (bS (bS (bS (bS (bS b23.out b24.out) b25.out) b26.out) b27.out) b28.out) b29.out)) (nT s_qh.out (by omega)))
 go_wp2_with fail
 refine (HX.out).mono ?_
 rintro e w30 ⟨v30,rfl,hv30,b30⟩
 obtain ⟨C45,j45,C46,j46,rfl,-,-⟩:=id hv30.opened
 replace hv30:=hid hv30
 replace b30:=hid b30
 clear HX
 clear z_r_0 z_r_1 z_r_2 z_r_3 z_r_4 z_r_5
 have HX:=hid (Br hv30.out t_qh.out s_qh.out (Aq hT.out (bS (bS (bS (bS (bS (bS (bS (bS (bS (bS (bS (bS (bS (bS (bS (bS (bS (bS (bS (bS (bS (bS (bS (bS (bS (bS (bS (bS (bS b1.out b2.out) b3.out) b4.out) b5.out) b6.out) b7.out) b8.out) b9.out) b10.out) b11.out) b12.out) b13.out) b14.out) b15.out) b16.out) b17.out) b18.out) b19.out) b20.out) b21.out) b22.out) b23.out) b24.out) b25.out) b26.out) b27.out) b28.out) b29.out) b30.out)))
 go_wp2_with fail
 refine (HX.out).mono ?_
 rintro e w31 ⟨rfl,b31⟩
 replace b31:=hid b31
 clear HX
 have hg:w31.heap[w11.heap.size]?=some (.cells #[.bool (decide (qa.num<0)),.slice C11 (len qa.num.natAbs) j11,.slice C12 (len (below qa.den)) j12,.bool (decide (qb.num<0)),.slice C13 (len qb.num.natAbs) j13,.slice C14 (len (below qb.den)) j14] 35 (0,0)):=((bS (bS (bS (bS (bS (bS (bS (bS (bS (bS (bS (bS (bS (bS (bS (bS (bS (bS b13.out b14.out) b15.out) b16.out) b17.out) b18.out) b19.out) b20.out) b21.out) b22.out) b23.out) b24.out) b25.out) b26.out) b27.out) b28.out) b29.out) b30.out) b31.out).block _ (gE.1 L12.out).1).trans L12.out
 obtain ⟨z_a_0,z_a_1,z_a_2,z_a_3,z_a_4,z_a_5⟩:=Ae' hg
 clear hg
 have hg:w31.heap[w15.heap.size]?=some (.cells #[.bool (decide (qc.num<0)),.slice C19 (len qc.num.natAbs) j19,.slice C20 (len (below qc.den)) j20,.bool (decide (qd.num<0)),.slice C21 (len qd.num.natAbs) j21,.slice C22 (len (below qd.den)) j22] 35 (0,0)):=((bS (bS (bS (bS (bS (bS (bS (bS (bS (bS (bS (bS (bS (bS b17.out b18.out) b19.out) b20.out) b21.out) b22.out) b23.out) b24.out) b25.out) b26.out) b27.out) b28.out) b29.out) b30.out) b31.out).block _ (gE.1 L16.out).1).trans L16.out
 obtain ⟨z_b_0,z_b_1,z_b_2,z_b_3,z_b_4,z_b_5⟩:=Ae' hg
 clear hg
 have HX:=hid (IW (hv11.out.keep (bS (bS (bS (bS (bS (bS (bS (bS (bS (bS (bS (bS (bS (bS (bS (bS (bS (bS (bS b12.out b13.out) b14.out) b15.out) b16.out) b17.out) b18.out) b19.out) b20.out) b21.out) b22.out) b23.out) b24.out) b25.out) b26.out) b27.out) b28.out) b29.out) b30.out) b31.out)) (hv15.out.keep (bS (bS (bS (bS (bS (bS (bS (bS (bS (bS (bS (bS (bS (bS (bS b16.out b17.out) b18.out) b19.out) b20.out) b21.out) b22.out) b23.out) b24.out) b25.out) b26.out) b27.out) b28.out) b29.out) b30.out) b31.out)) k_mul.out)
 go_wp2_with fail
 refine (HX.out).mono ?_
 rintro e w32 ⟨v32,rfl,hv32,b32⟩
 obtain ⟨C47,j47,C48,j48,C49,j49,C50,j50,rfl,hp32,hq32⟩:=id hv32.opened
 replace hv32:=hid hv32
 clear hp32 hq32
 replace b32:=hid b32
 clear HX
 clear z_a_0 z_a_1 z_a_2 z_a_3 z_a_4 z_a_5 z_b_0 z_b_1 z_b_2 z_b_3 z_b_4 z_b_5
 go_upto_region 13 with fail
 obtain ⟨w33,hw33⟩:=eX (w32.alloc (.cells #[.bool (decide (qm.num<0)),.slice C47 (len qm.num.natAbs) j47,.slice C48 (len (below qm.den)) j48,.bool (decide (qp.num<0)),.slice C49 (len qp.num.natAbs) j49,.slice C50 (len (below qp.den)) j50] 35))
 have b33:Hid (Below w32.heap.size w32 w33):=by rw [hw33];exact (Below.refl _ _).alloc (nL _) _
 have L33:Hid (w33.heap[w32.heap.size]?=some (.cells #[.bool (decide (qm.num<0)),.slice C47 (len qm.num.natAbs) j47,.slice C48 (len (below qm.den)) j48,.bool (decide (qp.num<0)),.slice C49 (len qp.num.natAbs) j49,.slice C50 (len (below qp.den)) j50] 35 (0,0))):=by rw [hw33];exact hA_ w32 _
 rw [←hw33]
 clear hw33
 have hg:w33.heap[w32.heap.size]?=some (.cells #[.bool (decide (qm.num<0)),.slice C47 (len qm.num.natAbs) j47,.slice C48 (len (below qm.den)) j48,.bool (decide (qp.num<0)),.slice C49 (len qp.num.natAbs) j49,.slice C50 (len (below qp.den)) j50] 35 (0,0)):=((Below.refl _ w33).block _ (gE.1 L33.out).1).trans L33.out
 obtain ⟨z_m_0,z_m_1,z_m_2,z_m_3,z_m_4,z_m_5⟩:=Ae' hg
 clear hg
 have HX:=hid (Ck (hv32.out.keep b33.out) (nT s_qm.out (by omega)))
 go_wp2_with fail
 refine (HX.out).mono ?_
 rintro e w34 ⟨v34,rfl,hv34,b34⟩
 obtain ⟨C51,j51,C52,j52,rfl,-,-⟩:=id hv34.opened
 replace hv34:=hid hv34
 replace b34:=hid b34
 clear HX
 clear z_m_0 z_m_1 z_m_2 z_m_3 z_m_4 z_m_5
 have HX:=hid (Br hv34.out t_qm.out s_qm.out (Aq hT.out (bS (bS (bS (bS (bS (bS (bS (bS (bS (bS (bS (bS (bS (bS (bS (bS (bS (bS (bS (bS (bS (bS (bS (bS (bS (bS (bS (bS (bS (bS (bS (bS (bS b1.out b2.out) b3.out) b4.out) b5.out) b6.out) b7.out) b8.out) b9.out) b10.out) b11.out) b12.out) b13.out) b14.out) b15.out) b16.out) b17.out) b18.out) b19.out) b20.out) b21.out) b22.out) b23.out) b24.out) b25.out) b26.out) b27.out) b28.out) b29.out) b30.out) b31.out) b32.out) b33.out) b34.out)))
 go_wp2_with fail
 refine (HX.out).mono ?_
 rintro e w35 ⟨rfl,b35⟩
 replace b35:=hid b35
 clear HX
 have hg:w35.heap[w32.heap.size]?=some (.cells #[.bool (decide (qm.num<0)),.slice C47 (len qm.num.natAbs) j47,.slice C48 (len (below qm.den)) j48,.bool (decide (qp.num<0)),.slice C49 (len qp.num.natAbs) j49,.slice C50 (len (below qp.den)) j50] 35 (0,0)):=((bS b34.out b35.out).block _ (gE.1 L33.out).1).trans L33.out
 obtain ⟨z_m_0,z_m_1,z_m_2,z_m_3,z_m_4,z_m_5⟩:=Ae' hg
 clear hg
 have HX:=hid (Ck' (hv32.out.keep (bS (bS b33.out b34.out) b35.out)) (nT s_qp.out (by omega)))
 go_wp2_with fail
 refine (HX.out).mono ?_
 rintro e w36 ⟨v36,rfl,hv36,b36⟩
 obtain ⟨C53,j53,C54,j54,rfl,-,-⟩:=id hv36.opened
 replace hv36:=hid hv36
 replace b36:=hid b36
 clear HX
 clear z_m_0 z_m_1 z_m_2 z_m_3 z_m_4 z_m_5
 have HX:=hid (Br hv36.out t_qp.out s_qp.out (Aq hT.out (bS (bS (bS (bS (bS (bS (bS (bS (bS (bS (bS (bS (bS (bS (bS (bS (bS (bS (bS (bS (bS (bS (bS (bS (bS (bS (bS (bS (bS (bS (bS (bS (bS (bS (bS b1.out b2.out) b3.out) b4.out) b5.out) b6.out) b7.out) b8.out) b9.out) b10.out) b11.out) b12.out) b13.out) b14.out) b15.out) b16.out) b17.out) b18.out) b19.out) b20.out) b21.out) b22.out) b23.out) b24.out) b25.out) b26.out) b27.out) b28.out) b29.out) b30.out) b31.out) b32.out) b33.out) b34.out) b35.out) b36.out)))
 go_wp2_with fail
 refine (HX.out).mono ?_
 rintro e w37 ⟨rfl,b37⟩
 replace b37:=hid b37
 clear HX
 have HE:=hid (bS (bS (bS (bS (bS (bS (bS (bS (bS (bS (bS (bS (bS (bS (bS (bS (bS (bS (bS (bS (bS (bS (bS (bS (bS (bS (bS (bS (bS (bS (bS (bS (bS (bS (bS (bS b1.out b2.out) b3.out) b4.out) b5.out) b6.out) b7.out) b8.out) b9.out) b10.out) b11.out) b12.out) b13.out) b14.out) b15.out) b16.out) b17.out) b18.out) b19.out) b20.out) b21.out) b22.out) b23.out) b24.out) b25.out) b26.out) b27.out) b28.out) b29.out) b30.out) b31.out) b32.out) b33.out) b34.out) b35.out) b36.out) b37.out)
 go_wp2_with fail
 go_ret
 exact ⟨rfl,HE.out⟩
end Go.Proofs.YtbigkkjnhcpgiaaGreatDoor
