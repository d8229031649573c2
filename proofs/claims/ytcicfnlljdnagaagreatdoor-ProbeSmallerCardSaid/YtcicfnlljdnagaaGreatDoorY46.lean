/-
  Contracts of the functions that the law calls, for every input (Sqd Sqe).
-/
import Derived.Test.YtcicfnlljdnagaaGreatDoorY00
import Derived.Test.YtcicfnlljdnagaaGreatDoorY45
set_option linter.all false
set_option maxRecDepth 100000
set_option maxHeartbeats 40000000
namespace Go.Proofs.YtcicfnlljdnagaaGreatDoor.Rf
open Lib (hid)
open Go.RowKit
open Rx
open Vx (Ab' Ah Ah')
open List renaming getElem?_toArray → lg, getElem?_cons_zero → lz, getElem?_cons_succ → ls, setIfInBounds_toArray → lt, set_cons_zero → ly, set_cons_succ → lu
theorem Dh {w:World} {v0 v1:Value} {a b c d p q:Rat} (hp:a+c=p) (hq:b+d=q) (hv:Aj w v0 a b) (hu:Aj w v1 c d) (sa:Ab' a≤34359738368) (sb:Ab' b≤34359738368) (sc:Ab' c≤34359738368) (sd:Ab' d≤34359738368) :
   Calls Tryz.prog 17 #[v0,v1] w (AQ w p q):=by rw [←hp,←hq];exact FN' hv hu sa sb sc sd
theorem Hh' {w:World} {Ba Bb Bd Bk:Nat} {a0 a1 m0 m1 d0 d1 k0 k1:Rat} {Bc s0 t0 D E:Nat} {M N:Int} {y0 y1 y2 y3 y4 y6 y8 y10 y12 y14 y15 y16 y17 y18 y19 y20 y21 y22 y23 y24 y25 y26 y27 y28 y29 y30 y31 y32 y33 y34 y35 y36 y37 y38 y39 y40 y41 y42 y43 y44 y45 y46 y47 y48 y49 y50 y51 y52 y53 y54 y55 y56 y57 y58 y59 y60 y61 y62 y63 y64 y65 y66 y67 y68 y69 y70 y71 y72 y73 y74 y75 y76 y77 y78 y79 y80 y81 y82 y83 y84 y85 y86 y87 y88 y89 y90 y91 y92 y93 y94 y95 y96 y97 y98 y99 y100 y101 y102 y103 y104 y105 y106 y107 y108 y109 y110 y111 y112 y113 y114 y115 y116 y117 y118 y119 y120 y121 y122 y123 y124 y125 y126 y127 y128 y129 y130 y131 y132 y133 y134 y135 y136 y137 y138 y139 y140 y141 y142 y143 y144 y145 y146 y147 y148 y149 y150 y151 y152 y153 y154 y155 y156 y157 y158 y159 y160 y161 y162 y163 y164 y165 y166 y167 y168 y169 y170 y171 y172 y173 y174:Value} {Po:Ending→World→Prop} (ha:AH' w Ba (a0,a1)) (hb:AH' w Bb (m0,m1)) (hd:AH' w Bd (d0,d1)) (hk:AH' w Bk (k0,k1)) (hf:AZ' a0 a1 m0 m1 d0 d1 k0 k1) (hT:TabAt 0 Lib.deBruijn64tab w) (hc:w.heap[Bc]?=some (.cells #[.int .u8 ((s0:Nat):Int),.int .u8 ((t0:Nat):Int),.int .i32 M,.int .u8 ((D:Nat):Int),.int .i32 N,.int .u8 ((E:Nat):Int)] 28 (0,0))) (h1 : -2147483648≤M) (h2:M≤2147483647) (h3:D≤255) (h4 : -2147483648≤N) (h5:N≤2147483647) (h6:E≤255)  (hPo:∀ w',Below w.heap.size w w'→Po (.returned (.bool true)) w') :
   (codeAt 10 Tryz.f3).wp Tryz.prog (bodyPost Tryz.prog Tryz.f3 Po) { tmps:=#[y0,y1,y2,y3,y4,.pointer (some ⟨Bc,0,none⟩),y6,.pointer (some ⟨Ba,0,none⟩),y8,.pointer (some ⟨Bb,0,none⟩),y10,.pointer (some ⟨Bd,0,none⟩),y12,.pointer (some ⟨Bk,0,none⟩),y14,y15,y16,y17,y18,y19,y20,y21,y22,y23,y24,y25,y26,y27,y28,y29,y30,y31,y32,y33,y34,y35,y36,y37,y38,y39,y40,y41,y42,y43,y44,y45,y46,y47,y48,y49,y50,y51,y52,y53,y54,y55,y56,y57,y58,y59,y60,y61,y62,y63,y64,y65,y66,y67,y68,y69,y70,y71,y72,y73,y74,y75,y76,y77,y78,y79,y80,y81,y82,y83,y84,y85,y86,y87,y88,y89,y90,y91,y92,y93,y94,y95,y96,y97,y98,y99,y100,y101,y102,y103,y104,y105,y106,y107,y108,y109,y110,y111,y112,y113,y114,y115,y116,y117,y118,y119,y120,y121,y122,y123,y124,y125,y126,y127,y128,y129,y130,y131,y132,y133,y134,y135,y136,y137,y138,y139,y140,y141,y142,y143,y144,y145,y146,y147,y148,y149,y150,y151,y152,y153,y154,y155,y156,y157,y158,y159,y160,y161,y162,y163,y164,y165,y166,y167,y168,y169,y170,y171,y172,y173,y174],defers:=[] } w:=by
 obtain ⟨s,es⟩:=eY (AE N E)
 have ss:=AK h4 h5 es
 obtain ⟨loa,ela⟩:=eY (a0+s)
 obtain ⟨ua,eha⟩:=eY (a1+s)
 have ya1:=Vx.AM a0 s
 have ya2:=Vx.AM a1 s
 rw [ela] at ya1
 rw [eha] at ya2
 have fa:=hf.2.2.2.1
 have ja:Ab' loa≤1000000∧Ab' ua≤1000000:=⟨by omega,by omega⟩
 have sza:Ab' a0≤34359738368∧Ab' a1≤34359738368:=⟨nT fa.1 (by omega),nT fa.2 (by omega)⟩
 clear ya1 ya2 fa
 obtain ⟨lob,elb⟩:=eY (m0+s)
 obtain ⟨ub,ehb⟩:=eY (m1+s)
 have yb1:=Vx.AM m0 s
 have yb2:=Vx.AM m1 s
 rw [elb] at yb1
 rw [ehb] at yb2
 have fb:=hf.2.2.2.2.1
 have jb:Ab' lob≤1000000∧Ab' ub≤1000000:=⟨by omega,by omega⟩
 have szb:Ab' m0≤34359738368∧Ab' m1≤34359738368:=⟨nT fb.1 (by omega),nT fb.2 (by omega)⟩
 clear yb1 yb2 fb
 obtain ⟨lod,eld⟩:=eY (d0+s)
 obtain ⟨ud,ehd⟩:=eY (d1+s)
 have yd1:=Vx.AM d0 s
 have yd2:=Vx.AM d1 s
 rw [eld] at yd1
 rw [ehd] at yd2
 have fd:=hf.2.2.2.2.2
 have jd:Ab' lod≤1000000∧Ab' ud≤1000000:=⟨by omega,by omega⟩
 have szd:Ab' d0≤34359738368∧Ab' d1≤34359738368:=⟨nT fd.1 (by omega),nT fd.2 (by omega)⟩
 clear yd1 yd2 fd
 have E0:=DU (a0:=a0) (a1:=a1) (b0:=m0) (b1:=m1) (d0:=d0) (d1:=d1) (p:=s)
 rw [hf.1,hf.2.1,ela,eha,elb,ehb,eld,ehd] at E0
 have h0:=hf.2.2.1
 rw [←E0.2.1,←E0.2.2] at h0
 have hks:=hf.ksiz
 have ssb:Ab' s≤34359738368:=by omega
 have ss2:Ab' s≤1099511627776:=by omega
 have lc:=Af' hc
 obtain ⟨Xa1,ca1,Xa2,ca2,Xa3,ca3,Xa4,ca4,ra,xa⟩:=id ha
 dsimp only at ra xa
 have la:=Af' ra
 replace ra:=hid ra
 replace xa:=hid xa
 obtain ⟨Xb1,cb1,Xb2,cb2,Xb3,cb3,Xb4,cb4,rb,xb⟩:=id hb
 dsimp only at rb xb
 have lb:=Af' rb
 replace rb:=hid rb
 replace xb:=hid xb
 obtain ⟨Xd1,cd1,Xd2,cd2,Xd3,cd3,Xd4,cd4,rdq,xd⟩:=id hd
 dsimp only at rdq xd
 have ld:=Af' rdq
 replace rdq:=hid rdq
 replace xd:=hid xd
 obtain ⟨Xk1,ck1,Xk2,ck2,Xk3,ck3,Xk4,ck4,rk,xk⟩:=id hk
 dsimp only at rk xk
 have lk:=Af' rk
 replace rk:=hid rk
 replace xk:=hid xk
 have zc0:w.cell? ⟨Bc,0,none⟩=some (.int .u8 ((s0:Nat):Int)):=cR _ _ 0 _ _ _ hc
 have zc1:w.cell? ⟨Bc,1,none⟩=some (.int .u8 ((t0:Nat):Int)):=cR _ _ 1 _ _ _ hc
 have zc2:w.cell? ⟨Bc,2,none⟩=some (.int .i32 M):=cR _ _ 2 _ _ _ hc
 have zc3:w.cell? ⟨Bc,3,none⟩=some (.int .u8 ((D:Nat):Int)):=cR _ _ 3 _ _ _ hc
 have zc4:w.cell? ⟨Bc,4,none⟩=some (.int .i32 N):=cR _ _ 4 _ _ _ hc
 have zc5:w.cell? ⟨Bc,5,none⟩=some (.int .u8 ((E:Nat):Int)):=cR _ _ 5 _ _ _ hc
 replace es:=hid es
 replace ela:=hid ela
 replace elb:=hid elb
 replace eld:=hid eld
 replace eha:=hid eha
 replace ehb:=hid ehb
 replace ehd:=hid ehd
 replace E0:=hid E0
 replace h0:=hid h0
 replace hks:=hid hks
 replace sza:=hid sza
 replace szb:=hid szb
 replace szd:=hid szd
 replace ja:=hid ja
 replace jb:=hid jb
 replace jd:=hid jd
 replace ss:=hid ss
 replace ssb:=hid ssb
 replace ss2:=hid ss2
 replace hf:=hid hf
 replace hT:=hid hT
 replace hPo:=hid hPo
 replace ha:=hid ha
 replace hb:=hid hb
 replace hd:=hid hd
 replace hk:=hid hk
 replace hc:=hid hc
 replace h1:=hid h1
 replace h2:=hid h2
 replace h3:=hid h3
 replace h4:=hid h4
 replace h5:=hid h5
 replace h6:=hid h6
 show Code.wp _ (Code.seq _ _) _ _ _
 have HX:=hid (Cd' (w:=w) h4.out h5.out h6.out es.out)
 go_wp2_with fail
 refine (HX.out).mono ?_
 rintro e w1 ⟨v1,rfl,hv1,b1⟩
 obtain ⟨C1,j1,C2,j2,rfl,-,-⟩:=id hv1.opened
 replace hv1:=hid hv1
 replace b1:=hid b1
 clear HX
 clear zc0 zc1 zc2 zc3 zc4 zc5
 have HX:=hid (Cx' hv1.out ss2.out)
 go_wp2_with fail
 refine (HX.out).mono ?_
 rintro e w2 ⟨v2,rfl,hv2,b2⟩
 obtain ⟨C3,j3,C4,j4,C5,j5,C6,j6,rfl,-,-,-,-⟩:=id hv2.opened
 replace hv2:=hid hv2
 replace b2:=hid b2
 clear HX
 go_upto_region 13 with fail
 obtain ⟨w3,hw3⟩:=eX (w2.alloc (.cells #[.bool (decide (s.num<0)),.slice C3 (Vx.len s.num.natAbs) j3,.slice C4 (Vx.len (below s.den)) j4,.bool (decide (s.num<0)),.slice C5 (Vx.len s.num.natAbs) j5,.slice C6 (Vx.len (below s.den)) j6] 34))
 have b3:=hid (Ar hw3)
 have L3:=hid (At' hw3)
 rw [←hw3]
 clear hw3
 have y0_3:=hid (bS (bS b1.out b2.out) b3.out)
 obtain ⟨z_a_0,z_a_1,z_a_2,z_a_3,z_a_4,z_a_5⟩:=Af (Ac' ra.out y0_3.out)
 obtain ⟨z_b_0,z_b_1,z_b_2,z_b_3,z_b_4,z_b_5⟩:=Af (Ac' rb.out y0_3.out)
 obtain ⟨z_d_0,z_d_1,z_d_2,z_d_3,z_d_4,z_d_5⟩:=Af (Ac' rdq.out y0_3.out)
 obtain ⟨z_P_0,z_P_1,z_P_2,z_P_3,z_P_4,z_P_5⟩:=Af L3.out
 have va:=Af' (Ac' ra.out y0_3.out)
 have vb:=Af' (Ac' rb.out y0_3.out)
 have vd:=Af' (Ac' rdq.out y0_3.out)
 have vP:=Af' L3.out
 have vk:=Af' (Ac' rk.out y0_3.out)
 go_wp2_with fail
 refine wp_region_held_drew (S:=(fun w'=>(w'.cell? ⟨Ba,0,none⟩=w3.cell? ⟨Ba,0,none⟩∧w'.cell? ⟨Ba,1,none⟩=w3.cell? ⟨Ba,1,none⟩∧w'.cell? ⟨Ba,2,none⟩=w3.cell? ⟨Ba,2,none⟩∧w'.cell? ⟨Ba,3,none⟩=w3.cell? ⟨Ba,3,none⟩∧w'.cell? ⟨Ba,4,none⟩=w3.cell? ⟨Ba,4,none⟩∧w'.cell? ⟨Ba,5,none⟩=w3.cell? ⟨Ba,5,none⟩∧w'.cell? ⟨Bb,0,none⟩=w3.cell? ⟨Bb,0,none⟩∧w'.cell? ⟨Bb,1,none⟩=w3.cell? ⟨Bb,1,none⟩∧w'.cell? ⟨Bb,2,none⟩=w3.cell? ⟨Bb,2,none⟩∧w'.cell? ⟨Bb,3,none⟩=w3.cell? ⟨Bb,3,none⟩∧w'.cell? ⟨Bb,4,none⟩=w3.cell? ⟨Bb,4,none⟩∧w'.cell? ⟨Bb,5,none⟩=w3.cell? ⟨Bb,5,none⟩∧w'.cell? ⟨Bd,0,none⟩=w3.cell? ⟨Bd,0,none⟩∧w'.cell? ⟨Bd,1,none⟩=w3.cell? ⟨Bd,1,none⟩∧w'.cell? ⟨Bd,2,none⟩=w3.cell? ⟨Bd,2,none⟩∧w'.cell? ⟨Bd,3,none⟩=w3.cell? ⟨Bd,3,none⟩∧w'.cell? ⟨Bd,4,none⟩=w3.cell? ⟨Bd,4,none⟩∧w'.cell? ⟨Bd,5,none⟩=w3.cell? ⟨Bd,5,none⟩∧w'.cell? ⟨w2.heap.size,0,none⟩=w3.cell? ⟨w2.heap.size,0,none⟩∧w'.cell? ⟨w2.heap.size,1,none⟩=w3.cell? ⟨w2.heap.size,1,none⟩∧w'.cell? ⟨w2.heap.size,2,none⟩=w3.cell? ⟨w2.heap.size,2,none⟩∧w'.cell? ⟨w2.heap.size,3,none⟩=w3.cell? ⟨w2.heap.size,3,none⟩∧w'.cell? ⟨w2.heap.size,4,none⟩=w3.cell? ⟨w2.heap.size,4,none⟩∧w'.cell? ⟨w2.heap.size,5,none⟩=w3.cell? ⟨w2.heap.size,5,none⟩))) (by kernel_rfl) ?_ (fun hHeld=>?_)
 · (try dsimp only)
   exact ⟨rfl,rfl,rfl,rfl,rfl,rfl,rfl,rfl,rfl,rfl,rfl,rfl,rfl,rfl,rfl,rfl,rfl,rfl,rfl,rfl,rfl,rfl,rfl,rfl⟩
 obtain ⟨w4,hw4⟩:=eX w3.drew
 have b4:Hid (Below w3.heap.size w3 w4):=hid (by rw [hw4];exact ⟨rfl,rfl,rfl,nL _,fun _ _=>rfl⟩)
 rw [←hw4] at hHeld ⊢
 clear hw4
 have y0_4:=hid (bS y0_3.out b4.out)
 have lbW:w.heap.size≤w4.heap.size:=y0_4.out.size
 have lbS:w3.heap.size≤w4.heap.size:=b4.out.size
 have lc_k:Bk<w4.heap.size:=Af' (Ac' rk.out y0_4.out)
 refine tk (i:=0) (h:=?_)
 try simp only [Act.put,lt,ly,lu]
 refine tk (i:=1) (h:=?_)
 try simp only [Act.put,lt,ly,lu]
 refine tk (i:=3) (h:=?_)
 try simp only [Act.put,lt,ly,lu]
 refine tk (i:=4) (h:=?_)
 try simp only [Act.put,lt,ly,lu]
 refine tk (i:=6) (h:=?_)
 try simp only [Act.put,lt,ly,lu]
 refine tk (i:=7) (h:=?_)
 try simp only [Act.put,lt,ly,lu]
 have hSof:Hid (∀ u:World,Below w4.heap.size w4 u→(u.cell? ⟨Ba,0,none⟩=w3.cell? ⟨Ba,0,none⟩∧u.cell? ⟨Ba,1,none⟩=w3.cell? ⟨Ba,1,none⟩∧u.cell? ⟨Ba,2,none⟩=w3.cell? ⟨Ba,2,none⟩∧u.cell? ⟨Ba,3,none⟩=w3.cell? ⟨Ba,3,none⟩∧u.cell? ⟨Ba,4,none⟩=w3.cell? ⟨Ba,4,none⟩∧u.cell? ⟨Ba,5,none⟩=w3.cell? ⟨Ba,5,none⟩∧u.cell? ⟨Bb,0,none⟩=w3.cell? ⟨Bb,0,none⟩∧u.cell? ⟨Bb,1,none⟩=w3.cell? ⟨Bb,1,none⟩∧u.cell? ⟨Bb,2,none⟩=w3.cell? ⟨Bb,2,none⟩∧u.cell? ⟨Bb,3,none⟩=w3.cell? ⟨Bb,3,none⟩∧u.cell? ⟨Bb,4,none⟩=w3.cell? ⟨Bb,4,none⟩∧u.cell? ⟨Bb,5,none⟩=w3.cell? ⟨Bb,5,none⟩∧u.cell? ⟨Bd,0,none⟩=w3.cell? ⟨Bd,0,none⟩∧u.cell? ⟨Bd,1,none⟩=w3.cell? ⟨Bd,1,none⟩∧u.cell? ⟨Bd,2,none⟩=w3.cell? ⟨Bd,2,none⟩∧u.cell? ⟨Bd,3,none⟩=w3.cell? ⟨Bd,3,none⟩∧u.cell? ⟨Bd,4,none⟩=w3.cell? ⟨Bd,4,none⟩∧u.cell? ⟨Bd,5,none⟩=w3.cell? ⟨Bd,5,none⟩∧u.cell? ⟨w2.heap.size,0,none⟩=w3.cell? ⟨w2.heap.size,0,none⟩∧u.cell? ⟨w2.heap.size,1,none⟩=w3.cell? ⟨w2.heap.size,1,none⟩∧u.cell? ⟨w2.heap.size,2,none⟩=w3.cell? ⟨w2.heap.size,2,none⟩∧u.cell? ⟨w2.heap.size,3,none⟩=w3.cell? ⟨w2.heap.size,3,none⟩∧u.cell? ⟨w2.heap.size,4,none⟩=w3.cell? ⟨w2.heap.size,4,none⟩∧u.cell? ⟨w2.heap.size,5,none⟩=w3.cell? ⟨w2.heap.size,5,none⟩)):=hid (fun u hu=>by
   have k:=bS b4.out hu
   exact ⟨k.cell (p:=⟨Ba,0,none⟩) va,k.cell (p:=⟨Ba,1,none⟩) va,k.cell (p:=⟨Ba,2,none⟩) va,k.cell (p:=⟨Ba,3,none⟩) va,k.cell (p:=⟨Ba,4,none⟩) va,k.cell (p:=⟨Ba,5,none⟩) va,k.cell (p:=⟨Bb,0,none⟩) vb,k.cell (p:=⟨Bb,1,none⟩) vb,k.cell (p:=⟨Bb,2,none⟩) vb,k.cell (p:=⟨Bb,3,none⟩) vb,k.cell (p:=⟨Bb,4,none⟩) vb,k.cell (p:=⟨Bb,5,none⟩) vb,k.cell (p:=⟨Bd,0,none⟩) vd,k.cell (p:=⟨Bd,1,none⟩) vd,k.cell (p:=⟨Bd,2,none⟩) vd,k.cell (p:=⟨Bd,3,none⟩) vd,k.cell (p:=⟨Bd,4,none⟩) vd,k.cell (p:=⟨Bd,5,none⟩) vd,k.cell (p:=⟨w2.heap.size,0,none⟩) vP,k.cell (p:=⟨w2.heap.size,1,none⟩) vP,k.cell (p:=⟨w2.heap.size,2,none⟩) vP,k.cell (p:=⟨w2.heap.size,3,none⟩) vP,k.cell (p:=⟨w2.heap.size,4,none⟩) vP,k.cell (p:=⟨w2.heap.size,5,none⟩) vP⟩)
 clear hHeld
 refine Ce' (base:=2) (n:=8) (INV:=fun a0 nK lK aK u=>∃ (c2 c5 c8 c9 d13:Bool) (ma mb md vt vu vo ve p13:Value) (b13:Nat),nK=(!c2).toNat+(!c5).toNat+(!c8).toNat+4*(!c9).toNat+(!d13).toNat∧lK=#[true,true,c2,true,true,c5,true,true,c8,c9,c9,c9,c9,d13,false,false]∧aK={ a0 with tmps:=((((((((a0.tmps.setIfInBounds 110 ma).setIfInBounds 113 mb).setIfInBounds 116 md).setIfInBounds 117 vt).setIfInBounds 107 vu).setIfInBounds 118 vo).setIfInBounds 119 ve).setIfInBounds 22 p13) }∧((c2 || !c5) && (c2 || !c8) && (c5 || !c8) && (c2 || !c9) && (c5 || !c9) && (c8 || !c9))=true∧Below w4.heap.size w4 u∧(c2=true→Aj u ma loa ua)∧(c5=true→Aj u mb lob ub)∧(c8=true→Aj u md lod ud)∧(c9=true→Aj u vo k0 k1∧ve=Value.int .i64 0)∧BP d13 w4.heap.size u (.cells #[.bool false,.slice none 0 0,.slice none 0 0,.bool false,.slice none 0 0,.slice none 0 0] 34) p13 b13) ?_ ?_ ?_
 · exact ⟨false,false,false,false,false,y110,y113,y116,y117,y107,y118,y119,y22,0,rfl,rfl,(by kernel_rfl),rfl,Below.refl _ _,nofun,nofun,nofun,nofun,nofun⟩
 rotate_left
 · rintro nK lK aK u ⟨c2,c5,c8,c9,d13,ma,mb,md,vt,vu,vo,ve,p13,b13,hn,rfl,rfl,hc,HB,k2,k5,k8,k9,r13⟩ ih
   refine BN' (fun i=>(i==2 && !c2) || (i==5 && (c2 && !c5)) || (i==8 && (c2 && c5 && !c8)) || (i==9 && (c2 && c5 && c8 && !c9)) || (i==13 && !d13)) ?_ ?_
   · clear ih HB r13 k9 k8 k5 k2
     cases c2 <;> cases c5 <;> cases c8 <;> cases c9 <;> cases d13 <;> first | exact absurd hn (Nat.succ_ne_zero nK) | exact absurd hc Bool.false_ne_true | (clear hn hc;kernel_rfl)
   · intro iK hp
     simp only [Bool.or_eq_true,Bool.and_eq_true,beq_iff_eq,Bool.not_eq_true'] at hp
     rcases hp with ((((⟨rfl,rfl⟩ | ⟨rfl,rfl,rfl⟩) | ⟨rfl,⟨rfl,rfl⟩,rfl⟩) | ⟨rfl,⟨⟨rfl,rfl⟩,rfl⟩,rfl⟩) | ⟨rfl,rfl⟩)
     · refine AllReadyH.cons (o:=?oq8) ?eq8 ?kq8 AllReadyH.nil
       case eq8=>simp only [lg,lz,ls] <;> rfl
       intro K hK
       go_simp
       go_at_call 17
       refine (Dh ela.out eha.out (xa.out.keep (bS y0_3.out (bS b4.out HB))) (hv2.out.keep (bS b3.out (bS b4.out HB))) sza.out.1 sza.out.2 ssb.out ssb.out).mono ?_
       rintro eK u9 ⟨ma,rfl,kk,b9⟩
       refine hK.out _ _ (hSof.out u9 (bS HB b9)) (fun hHeld=>?_)
       clear hK
       try simp only [Act.put,lt,ly,lu]
       exact ih _ (by omega) _ _ _ ⟨true,c5,c8,c9,d13,ma,mb,md,vt,vu,vo,ve,p13,b13,(by simp only [Bool.not_true,Bool.not_false,Bool.toNat_true,Bool.toNat_false] at hn ⊢;omega),rfl,(by kernel_rfl),(by cases c5 <;> cases c8 <;> cases c9 <;> first | rfl | exact hc | cases hc),bS HB b9,fun _=>kk,fun h=>(k5 h).keep b9,fun h=>(k8 h).keep b9,fun h=>⟨(k9 h).1.keep b9,(k9 h).2⟩,r13.keep b9⟩
     · refine AllReadyH.cons (o:=?oq9) ?eq9 ?kq9 AllReadyH.nil
       case eq9=>simp only [lg,lz,ls] <;> rfl
       intro K hK
       go_simp
       go_at_call 17
       refine (Dh elb.out ehb.out (xb.out.keep (bS y0_3.out (bS b4.out HB))) (hv2.out.keep (bS b3.out (bS b4.out HB))) szb.out.1 szb.out.2 ssb.out ssb.out).mono ?_
       rintro eK u9 ⟨mb,rfl,kk,b9⟩
       refine hK.out _ _ (hSof.out u9 (bS HB b9)) (fun hHeld=>?_)
       clear hK
       try simp only [Act.put,lt,ly,lu]
       exact ih _ (by omega) _ _ _ ⟨true,true,c8,c9,d13,ma,mb,md,vt,vu,vo,ve,p13,b13,(by simp only [Bool.not_true,Bool.not_false,Bool.toNat_true,Bool.toNat_false] at hn ⊢;omega),rfl,(by kernel_rfl),(by cases c8 <;> cases c9 <;> first | rfl | exact hc | cases hc),bS HB b9,fun h=>(k2 h).keep b9,fun _=>kk,fun h=>(k8 h).keep b9,fun h=>⟨(k9 h).1.keep b9,(k9 h).2⟩,r13.keep b9⟩
     · refine AllReadyH.cons (o:=?oq10) ?eq10 ?kq10 AllReadyH.nil
       case eq10=>simp only [lg,lz,ls] <;> rfl
       intro K hK
       go_simp
       go_at_call 17
       refine (Dh eld.out ehd.out (xd.out.keep (bS y0_3.out (bS b4.out HB))) (hv2.out.keep (bS b3.out (bS b4.out HB))) szd.out.1 szd.out.2 ssb.out ssb.out).mono ?_
       rintro eK u9 ⟨md,rfl,kk,b9⟩
       refine hK.out _ _ (hSof.out u9 (bS HB b9)) (fun hHeld=>?_)
       clear hK
       try simp only [Act.put,lt,ly,lu]
       exact ih _ (by omega) _ _ _ ⟨true,true,true,c9,d13,ma,mb,md,vt,vu,vo,ve,p13,b13,(by simp only [Bool.not_true,Bool.not_false,Bool.toNat_true,Bool.toNat_false] at hn ⊢;omega),rfl,(by kernel_rfl),(by cases c9 <;> first | rfl | exact hc | cases hc),bS HB b9,fun h=>(k2 h).keep b9,fun h=>(k5 h).keep b9,fun _=>kk,fun h=>⟨(k9 h).1.keep b9,(k9 h).2⟩,r13.keep b9⟩
     · refine AllReadyH.cons (o:=?oq11) ?eq11 ?kq11 AllReadyH.nil
       case eq11=>simp only [lg,lz,ls] <;> rfl
       intro K hK
       go_simp
       go_at_call 5
       refine (BH (k2 rfl) (k5 rfl) (k8 rfl) ja.out jb.out jd.out h0.out E0.out.1.1 E0.out.1.2).mono ?_
       rintro eK u9 ⟨vo,rfl,kk,b9⟩
       refine hK.out _ _ (hSof.out u9 (bS HB b9)) (fun hHeld=>?_)
       clear hK
       try simp only [Act.put,lt,ly,lu]
       obtain ⟨mK,rfl⟩:∃ mK,nK=mK+3:=⟨nK - 3,by simp only [Bool.not_true,Bool.not_false,Bool.toNat_true,Bool.toNat_false] at hn;omega⟩
       cases d13 <;> (
         refine tk (i:=10) (h:=?_);try simp only [Act.put,lt,ly,lu]
         refine tk (i:=11) (h:=?_);try simp only [Act.put,lt,ly,lu]
         refine tk (i:=12) (h:=?_);try simp only [Act.put,lt,ly,lu]
         exact ih _ (by omega) _ _ _ ⟨true,true,true,true,_,ma,mb,md,.tuple #[vo,.int .i64 0],.tuple #[vo,.int .i64 0],vo,.int .i64 0,p13,b13,(by simp only [Bool.not_true,Bool.not_false,Bool.toNat_true,Bool.toNat_false] at hn ⊢;omega),rfl,(by kernel_rfl),(by first | rfl | exact hc),bS HB b9,fun h=>(k2 h).keep b9,fun h=>(k5 h).keep b9,fun h=>(k8 h).keep b9,fun _=>⟨kk,rfl⟩,r13.keep b9⟩)
     · refine AllReadyH.cons (o:=?oq12) ?eq12 ?kq12 AllReadyH.nil
       case eq12=>simp only [lg,lz,ls] <;> rfl
       intro K hK
       go_simp
       have b9:=An u (.cells #[.bool false,.slice none 0 0,.slice none 0 0,.bool false,.slice none 0 0,.slice none 0 0] 34)
       refine hK.out _ _ (hSof.out _ (bS HB b9)) (fun _=>?_)
       try simp only [Act.put,lt,ly,lu]
       exact ih _ (by omega) _ _ _ ⟨c2,c5,c8,c9,true,ma,mb,md,vt,vu,vo,ve,.pointer (some ⟨u.heap.size,0,none⟩),u.heap.size,(by simp only [Bool.not_true,Bool.not_false,Bool.toNat_true,Bool.toNat_false] at hn ⊢;omega),rfl,(by kernel_rfl),hc,bS HB b9,fun h=>(k2 h).keep b9,fun h=>(k5 h).keep b9,fun h=>(k8 h).keep b9,fun h=>⟨(k9 h).1.keep b9,(k9 h).2⟩,.new _ HB.size⟩
 rintro lK aK w5 ⟨c2,c5,c8,c9,d13,ma,mb,md,vt,vu,vo,ve,p13,b13,hn,rfl,rfl,hc,HB,k2,k5,k8,k9,r13⟩
 obtain ⟨rfl,rfl,rfl,rfl,rfl⟩:c2=true∧c5=true∧c8=true∧c9=true∧d13=true:=by
   revert hn
   clear HB hc r13 k9 k8 k5 k2
   cases c2 <;> cases c5 <;> cases c8 <;> cases c9 <;> cases d13 <;> simp
 clear hn hc
 replace k2:=k2 rfl
 replace k5:=k5 rfl
 replace k8:=k8 rfl
 replace k9:=k9 rfl
 obtain ⟨rfl,rr13⟩:=r13 rfl
 clear r13
 try simp only [Act.put,lt,ly,lu]
 have b5:=hid HB
 clear HB
 have hHeld:=hSof.out _ b5.out
 have L5_13:=hid rr13.2
 replace rr13:=rr13.1
 obtain ⟨k9,rfl⟩:=k9
 obtain ⟨C7,j7,C8,j8,C9,j9,C10,j10,rfl,-,-,-,-⟩:=id k9.opened
 replace k9:=hid k9
 clear k2 k5 k8
 refine rd (i:=14) (h:=fun K hK=>?_)
 have DBq14:=Ac' L5_13.out (Below.refl _ w5)
 have q0:w5.cell? ⟨b13,0,none⟩=some (.bool false):=cR _ _ _ _ _ _ DBq14
 have F0:w5.frozen? ⟨b13,0,none⟩=false:=fR w5 (b13) 0 _ _ DBq14
 have q1:w5.cell? ⟨b13,1,none⟩=some (.slice none 0 0):=cR _ _ _ _ _ _ DBq14
 have F1:w5.frozen? ⟨b13,1,none⟩=false:=fR w5 (b13) 1 _ _ DBq14
 have q2:w5.cell? ⟨b13,2,none⟩=some (.slice none 0 0):=cR _ _ _ _ _ _ DBq14
 have F2:w5.frozen? ⟨b13,2,none⟩=false:=fR w5 (b13) 2 _ _ DBq14
 have q3:w5.cell? ⟨b13,3,none⟩=some (.bool false):=cR _ _ _ _ _ _ DBq14
 have F3:w5.frozen? ⟨b13,3,none⟩=false:=fR w5 (b13) 3 _ _ DBq14
 have q4:w5.cell? ⟨b13,4,none⟩=some (.slice none 0 0):=cR _ _ _ _ _ _ DBq14
 have F4:w5.frozen? ⟨b13,4,none⟩=false:=fR w5 (b13) 4 _ _ DBq14
 have q5:w5.cell? ⟨b13,5,none⟩=some (.slice none 0 0):=cR _ _ _ _ _ _ DBq14
 have F5:w5.frozen? ⟨b13,5,none⟩=false:=fR w5 (b13) 5 _ _ DBq14
 have y0_5:=hid (bS y0_4.out b5.out)
 have y3_5:=hid (bS b4.out b5.out)
 have hS:=y3_5.out
 have hz6:w3.heap.size≤w5.heap.size:=hS.size
 go_simp
 clear q0 F0 q1 F1 q2 F2 q3 F3 q4 F4 q5 F5
 have FV:=hid k9.out
 have FB:=hid y0_5.out
 obtain ⟨w6,hw⟩:=eX (((((((w5.setCell ⟨b13,0,none⟩ (.bool (decide (k0.num<0)))).setCell ⟨b13,1,none⟩ (.slice C7 (Vx.len k0.num.natAbs) j7)).setCell ⟨b13,2,none⟩ (.slice C8 (Vx.len (below k0.den)) j8)).setCell ⟨b13,3,none⟩ (.bool (decide (k1.num<0)))).setCell ⟨b13,4,none⟩ (.slice C9 (Vx.len k1.num.natAbs) j9)).setCell ⟨b13,5,none⟩ (.slice C10 (Vx.len (below k1.den)) j10)))
 have hse6:w6.heap.size=w5.heap.size:=by rw [hw];simp
 obtain ⟨E,OT,LV,BL⟩:=Av DBq14 hw
 rw [←hw]
 clear hw
 have L6:=hid E
 have FB6:=hid (BL _ _ (by omega) FB.out)
 have HS6:=hid (BL _ _ (show w3.heap.size≤b13 by omega) hS)
 have LKk6:=hid (OT _ _ (by omega) (Ac' rk.out y0_5.out))
 have KVo6:=hid (LV.box k9.out)
 have KVk6:=hid (LV.box (xk.out.keep y0_5.out))
 have s0_6:w6.cell? ⟨Ba,0,none⟩=w3.cell? ⟨Ba,0,none⟩:=(Aa' OT (by omega) (ltl va hz6)).trans (hS.cell (p:=⟨Ba,0,none⟩) va)
 have s1_6:w6.cell? ⟨Ba,1,none⟩=w3.cell? ⟨Ba,1,none⟩:=(Aa' OT (by omega) (ltl va hz6)).trans (hS.cell (p:=⟨Ba,1,none⟩) va)
 have s2_6:w6.cell? ⟨Ba,2,none⟩=w3.cell? ⟨Ba,2,none⟩:=(Aa' OT (by omega) (ltl va hz6)).trans (hS.cell (p:=⟨Ba,2,none⟩) va)
 have s3_6:w6.cell? ⟨Ba,3,none⟩=w3.cell? ⟨Ba,3,none⟩:=(Aa' OT (by omega) (ltl va hz6)).trans (hS.cell (p:=⟨Ba,3,none⟩) va)
 have s4_6:w6.cell? ⟨Ba,4,none⟩=w3.cell? ⟨Ba,4,none⟩:=(Aa' OT (by omega) (ltl va hz6)).trans (hS.cell (p:=⟨Ba,4,none⟩) va)
 have s5_6:w6.cell? ⟨Ba,5,none⟩=w3.cell? ⟨Ba,5,none⟩:=(Aa' OT (by omega) (ltl va hz6)).trans (hS.cell (p:=⟨Ba,5,none⟩) va)
 have s6_6:w6.cell? ⟨Bb,0,none⟩=w3.cell? ⟨Bb,0,none⟩:=(Aa' OT (by omega) (ltl vb hz6)).trans (hS.cell (p:=⟨Bb,0,none⟩) vb)
 have s7_6:w6.cell? ⟨Bb,1,none⟩=w3.cell? ⟨Bb,1,none⟩:=(Aa' OT (by omega) (ltl vb hz6)).trans (hS.cell (p:=⟨Bb,1,none⟩) vb)
 have s8_6:w6.cell? ⟨Bb,2,none⟩=w3.cell? ⟨Bb,2,none⟩:=(Aa' OT (by omega) (ltl vb hz6)).trans (hS.cell (p:=⟨Bb,2,none⟩) vb)
 have s9_6:w6.cell? ⟨Bb,3,none⟩=w3.cell? ⟨Bb,3,none⟩:=(Aa' OT (by omega) (ltl vb hz6)).trans (hS.cell (p:=⟨Bb,3,none⟩) vb)
 have s10_6:w6.cell? ⟨Bb,4,none⟩=w3.cell? ⟨Bb,4,none⟩:=(Aa' OT (by omega) (ltl vb hz6)).trans (hS.cell (p:=⟨Bb,4,none⟩) vb)
 have s11_6:w6.cell? ⟨Bb,5,none⟩=w3.cell? ⟨Bb,5,none⟩:=(Aa' OT (by omega) (ltl vb hz6)).trans (hS.cell (p:=⟨Bb,5,none⟩) vb)
 have s12_6:w6.cell? ⟨Bd,0,none⟩=w3.cell? ⟨Bd,0,none⟩:=(Aa' OT (by omega) (ltl vd hz6)).trans (hS.cell (p:=⟨Bd,0,none⟩) vd)
 have s13_6:w6.cell? ⟨Bd,1,none⟩=w3.cell? ⟨Bd,1,none⟩:=(Aa' OT (by omega) (ltl vd hz6)).trans (hS.cell (p:=⟨Bd,1,none⟩) vd)
 have s14_6:w6.cell? ⟨Bd,2,none⟩=w3.cell? ⟨Bd,2,none⟩:=(Aa' OT (by omega) (ltl vd hz6)).trans (hS.cell (p:=⟨Bd,2,none⟩) vd)
 have s15_6:w6.cell? ⟨Bd,3,none⟩=w3.cell? ⟨Bd,3,none⟩:=(Aa' OT (by omega) (ltl vd hz6)).trans (hS.cell (p:=⟨Bd,3,none⟩) vd)
 have s16_6:w6.cell? ⟨Bd,4,none⟩=w3.cell? ⟨Bd,4,none⟩:=(Aa' OT (by omega) (ltl vd hz6)).trans (hS.cell (p:=⟨Bd,4,none⟩) vd)
 have s17_6:w6.cell? ⟨Bd,5,none⟩=w3.cell? ⟨Bd,5,none⟩:=(Aa' OT (by omega) (ltl vd hz6)).trans (hS.cell (p:=⟨Bd,5,none⟩) vd)
 have s18_6:w6.cell? ⟨w2.heap.size,0,none⟩=w3.cell? ⟨w2.heap.size,0,none⟩:=(Aa' OT (by omega) (ltl vP hz6)).trans (hS.cell (p:=⟨w2.heap.size,0,none⟩) vP)
 have s19_6:w6.cell? ⟨w2.heap.size,1,none⟩=w3.cell? ⟨w2.heap.size,1,none⟩:=(Aa' OT (by omega) (ltl vP hz6)).trans (hS.cell (p:=⟨w2.heap.size,1,none⟩) vP)
 have s20_6:w6.cell? ⟨w2.heap.size,2,none⟩=w3.cell? ⟨w2.heap.size,2,none⟩:=(Aa' OT (by omega) (ltl vP hz6)).trans (hS.cell (p:=⟨w2.heap.size,2,none⟩) vP)
 have s21_6:w6.cell? ⟨w2.heap.size,3,none⟩=w3.cell? ⟨w2.heap.size,3,none⟩:=(Aa' OT (by omega) (ltl vP hz6)).trans (hS.cell (p:=⟨w2.heap.size,3,none⟩) vP)
 have s22_6:w6.cell? ⟨w2.heap.size,4,none⟩=w3.cell? ⟨w2.heap.size,4,none⟩:=(Aa' OT (by omega) (ltl vP hz6)).trans (hS.cell (p:=⟨w2.heap.size,4,none⟩) vP)
 have s23_6:w6.cell? ⟨w2.heap.size,5,none⟩=w3.cell? ⟨w2.heap.size,5,none⟩:=(Aa' OT (by omega) (ltl vP hz6)).trans (hS.cell (p:=⟨w2.heap.size,5,none⟩) vP)
 refine hK.out _ _ ?_ (fun hHeld2=>?_)
 · (try dsimp only)
   exact ⟨s0_6,s1_6,s2_6,s3_6,s4_6,s5_6,s6_6,s7_6,s8_6,s9_6,s10_6,s11_6,s12_6,s13_6,s14_6,s15_6,s16_6,s17_6,s18_6,s19_6,s20_6,s21_6,s22_6,s23_6⟩
 clear hK K hHeld hS OT LV BL FV FB E DBq14 s0_6 s1_6 s2_6 s3_6 s4_6 s5_6 s6_6 s7_6 s8_6 s9_6 s10_6 s11_6 s12_6 s13_6 s14_6 s15_6 s16_6 s17_6 s18_6 s19_6 s20_6 s21_6 s22_6 s23_6
 try simp only [Act.put,lt,ly,lu]
 have hHeld:=hHeld2
 clear hHeld2
 refine tk (i:=15) (h:=?_)
 try simp only [Act.put,lt,ly,lu]
 refine wpAnyH_done (by kernel_rfl) ?_ _
 clear hHeld
 obtain ⟨z_o_0,z_o_1,z_o_2,z_o_3,z_o_4,z_o_5⟩:=Af L6.out
 obtain ⟨z_k_0,z_k_1,z_k_2,z_k_3,z_k_4,z_k_5⟩:=Af LKk6.out
 go_upto_region 14 with fail
 rename_i G hG Gb hGb
 replace hG:=hid hG
 have HX:=hid (Cg KVo6.out KVk6.out (nT hks.out.1 (by omega)) (nT hks.out.2 (by omega)))
 go_wp2_with fail
 refine (HX.out).mono ?_
 rintro e w7 ⟨rfl,b7⟩
 replace b7:=hid b7
 clear HX
 have FB:=hid (bS FB6.out b7.out)
 go_wp2_with fail
 refine hG.out _ _ ?_
 rcases Decidable.em (M=0) with hM | hM
 · exact Eu (ha.out.keep FB.out) (hb.out.keep FB.out) (hd.out.keep FB.out) (hk.out.keep FB.out) hf.out (Ar' hT.out FB.out) (Ac' hc.out FB.out) h1.out h2.out h3.out hM (fun w' h=>hPo.out w' (Ae' FB.out h))
 · exact Hg' (ha.out.keep FB.out) (hb.out.keep FB.out) (hd.out.keep FB.out) (hk.out.keep FB.out) hf.out (Ar' hT.out FB.out) (Ac' hc.out FB.out) h1.out h2.out h3.out hM (fun w' h=>hPo.out w' (Ae' FB.out h))
def CY' (w:World) (b:Nat) (q:Rat):Prop:=∃ A1 c1 B1 d1,w.heap[b]?=some (.cells #[.bool (decide (q.num<0)),.slice A1 (Vx.len q.num.natAbs) c1,.slice B1 (Vx.len (below q.den)) d1] 32 (0,0))∧Ad' w (.agg #[.bool (decide (q.num<0)),.slice A1 (Vx.len q.num.natAbs) c1,.slice B1 (Vx.len (below q.den)) d1]) q
theorem CY'.keep {w w':World} {b:Nat} {q:Rat} (h:CY' w b q) (hb:Below w.heap.size w w'):CY' w' b q:=by
 obtain ⟨A1,c1,B1,d1,h1,h2⟩:=h
 exact ⟨A1,c1,B1,d1,Ac' h1 hb,h2.keep hb⟩
theorem H7' (x:Rat):x*(((1:Int):Rat) / ((2:Int):Rat))=x / 2:=by rw [Rat.div_def x 2,Rat.div_def];congr 1;decide +kernel
theorem GC' {w:World} {Ba Bb Bd Bk:Nat} {a0 a1 m0 m1 d0 d1 k0 k1:Rat} {Bc s0 t0 D E:Nat} {M N:Int} {Bx By Bz:Nat} {x y z:Rat} {y0 y1 y2 y3 y4 y6 y8 y10 y12 y14 y18 y19 y20 y21 y22 y23 y24 y25 y26 y27 y28 y29 y30 y31 y32 y33 y34 y35 y36 y37 y38 y39 y40 y41 y42 y43 y44 y45 y46 y47 y48 y49 y50 y51 y52 y53 y54 y55 y56 y57 y58 y59 y60 y61 y62 y63 y64 y65 y66 y67 y68 y69 y70 y71 y72 y73 y74 y75 y76 y77 y78 y79 y80 y81 y82 y83 y84 y85 y86 y87 y88 y89 y90 y91 y92 y93 y94 y95 y96 y97 y98 y99 y100 y101 y102 y103 y104 y105 y106 y107 y108 y109 y110 y111 y112 y113 y114 y115 y116 y117 y118 y119 y120 y121 y122 y123 y124 y125 y126 y127 y128 y129 y130 y131 y132 y133 y134 y135 y136 y137 y138 y139 y140 y141 y142 y143 y144 y145 y146 y147 y148 y149 y150 y151 y152 y153 y154 y155 y156 y157 y158 y159 y160 y161 y162 y163 y164 y165 y166 y167 y168 y169 y170 y171 y172 y173 y174:Value} {Po:Ending→World→Prop} (ha:AH' w Ba (a0,a1)) (hb:AH' w Bb (m0,m1)) (hd:AH' w Bd (d0,d1)) (hk:AH' w Bk (k0,k1)) (hf:AZ' a0 a1 m0 m1 d0 d1 k0 k1) (hT:TabAt 0 Lib.deBruijn64tab w) (hc:w.heap[Bc]?=some (.cells #[.int .u8 ((s0:Nat):Int),.int .u8 ((t0:Nat):Int),.int .i32 M,.int .u8 ((D:Nat):Int),.int .i32 N,.int .u8 ((E:Nat):Int)] 28 (0,0))) (h1 : -2147483648≤M) (h2:M≤2147483647) (h3:D≤255) (h4 : -2147483648≤N) (h5:N≤2147483647) (h6:E≤255) (hx:CY' w Bx x) (hy:CY' w By y) (hz:CY' w Bz z) (ix:a0≤x∧x≤a1) (iy:m0≤y∧y≤m1) (iz:d0≤z∧z≤d1) (sx:Ab' x≤100∧Ab' y≤100∧Ab' z≤100)  (hPo:∀ w',Below w.heap.size w w'→Po (.returned (.bool true)) w') :
   (codeAt 7 Tryz.f3).wp Tryz.prog (bodyPost Tryz.prog Tryz.f3 Po) { tmps:=#[y0,y1,y2,y3,y4,.pointer (some ⟨Bc,0,none⟩),y6,.pointer (some ⟨Ba,0,none⟩),y8,.pointer (some ⟨Bb,0,none⟩),y10,.pointer (some ⟨Bd,0,none⟩),y12,.pointer (some ⟨Bk,0,none⟩),y14,.pointer (some ⟨Bx,0,none⟩),.pointer (some ⟨By,0,none⟩),.pointer (some ⟨Bz,0,none⟩),y18,y19,y20,y21,y22,y23,y24,y25,y26,y27,y28,y29,y30,y31,y32,y33,y34,y35,y36,y37,y38,y39,y40,y41,y42,y43,y44,y45,y46,y47,y48,y49,y50,y51,y52,y53,y54,y55,y56,y57,y58,y59,y60,y61,y62,y63,y64,y65,y66,y67,y68,y69,y70,y71,y72,y73,y74,y75,y76,y77,y78,y79,y80,y81,y82,y83,y84,y85,y86,y87,y88,y89,y90,y91,y92,y93,y94,y95,y96,y97,y98,y99,y100,y101,y102,y103,y104,y105,y106,y107,y108,y109,y110,y111,y112,y113,y114,y115,y116,y117,y118,y119,y120,y121,y122,y123,y124,y125,y126,y127,y128,y129,y130,y131,y132,y133,y134,y135,y136,y137,y138,y139,y140,y141,y142,y143,y144,y145,y146,y147,y148,y149,y150,y151,y152,y153,y154,y155,y156,y157,y158,y159,y160,y161,y162,y163,y164,y165,y166,y167,y168,y169,y170,y171,y172,y173,y174],defers:=[] } w:=by
 obtain ⟨h,eh⟩:=eY (((1:Int):Rat) / ((2:Int):Rat))
 obtain ⟨n,en⟩:=eY (y - z)
 obtain ⟨m,em⟩:=eY (y+z)
 obtain ⟨g,eg⟩:=eY (m*h)
 obtain ⟨e,ee⟩:=eY (x - g)
 obtain ⟨q,eq⟩:=eY (n / e)
 have hdv:divisorQ x y z=e:=by unfold divisorQ;rw [←ee,←eg,←em,←eh,H7']
 have hcq:Ap' x y z=q:=by unfold Ap';rw [hdv,en];exact eq
 have hc9:=Hg ix iy iz hf.2.2.1
 rw [hdv,hcq,hf.1,hf.2.1] at hc9
 have hks:=hf.ksiz
 have sh:Ab' h≤9:=by rw [←eh];decide +kernel
 have sn:Ab' n≤201:=by rw [←en];have:=Vx.AF' y z;omega
 have sm:Ab' m≤201:=by rw [←em];have:=Vx.AM y z;omega
 have sg:Ab' g≤210:=by rw [←eg];have:=Vx.A9 m h;omega
 have se:Ab' e≤400:=by rw [←ee];have:=Vx.AF' x g;omega
 have sq:Ab' q≤700:=by rw [←eq];have:=Vx.AU n e;omega
 have hdec:decide (k0≤q∧q≤k1)=true:=dT_ hc9.1
 have he0:(if e=0 then (10:Int) else 0)=0:=if_neg hc9.2
 have bx:Ab' x≤536870912:=by omega
 have by_:Ab' y≤536870912:=by omega
 have bz:Ab' z≤536870912:=by omega
 have bh:Ab' h≤536870912:=by omega
 have bn:Ab' n≤536870912:=by omega
 have bm:Ab' m≤536870912:=by omega
 have bg:Ab' g≤536870912:=by omega
 have be:Ab' e≤536870912:=by omega
 clear hdv hcq hc9 sh sn sm sg se
 obtain ⟨Xk1,ck1,Xk2,ck2,Xk3,ck3,Xk4,ck4,rk,xk⟩:=id hk
 dsimp only at rk xk
 have lk:=Af' rk
 replace rk:=hid rk
 replace xk:=hid xk
 obtain ⟨Xx1,cx1,Xx2,cx2,rx,xx⟩:=id hx
 have lx:=Af' rx
 replace rx:=hid rx
 replace xx:=hid xx
 obtain ⟨Xy1,cy1,Xy2,cy2,ry,xy⟩:=id hy
 have ly:=Af' ry
 replace ry:=hid ry
 replace xy:=hid xy
 obtain ⟨Xz1,cz1,Xz2,cz2,rz,xz⟩:=id hz
 have lz:=Af' rz
 replace rz:=hid rz
 replace xz:=hid xz
 replace eh:=hid eh
 replace en:=hid en
 replace em:=hid em
 replace eg:=hid eg
 replace ee:=hid ee
 replace eq:=hid eq
 replace hks:=hid hks
 replace sq:=hid sq
 replace hdec:=hid hdec
 replace he0:=hid he0
 replace bx:=hid bx
 replace by_:=hid by_
 replace bz:=hid bz
 replace bh:=hid bh
 replace bn:=hid bn
 replace bm:=hid bm
 replace bg:=hid bg
 replace be:=hid be
 replace hf:=hid hf
 replace hT:=hid hT
 replace hPo:=hid hPo
 replace ha:=hid ha
 replace hb:=hid hb
 replace hd:=hid hd
 replace hk:=hid hk
 replace hc:=hid hc
 replace h1:=hid h1
 replace h2:=hid h2
 replace h3:=hid h3
 replace h4:=hid h4
 replace h5:=hid h5
 replace h6:=hid h6
 replace hx:=hid hx
 replace hy:=hid hy
 replace hz:=hid hz
 replace ix:=hid ix
 replace iy:=hid iy
 replace iz:=hid iz
 replace sx:=hid sx
 show Code.wp _ (Code.seq _ _) _ _ _
 have HX:=hid (BY' (w:=w) eh.out (by omega) (by omega) (by omega) (by omega))
 go_wp2_with fail
 refine (HX.out).mono ?_
 rintro e w1 ⟨v1,rfl,hv1,b1⟩
 obtain ⟨C1,j1,C2,j2,rfl,-,-⟩:=id hv1.opened
 replace hv1:=hid hv1
 replace b1:=hid b1
 clear HX
 go_upto_region 9 with fail
 obtain ⟨w2,hw2⟩:=eX (w1.alloc (.cells #[.bool (decide (h.num<0)),.slice C1 (Vx.len h.num.natAbs) j1,.slice C2 (Vx.len (below h.den)) j2] 32))
 have b2:=hid (Ar hw2)
 have L2:=hid (At' hw2)
 rw [←hw2]
 clear hw2
 have y0_2:=hid (bS b1.out b2.out)
 obtain ⟨z_x_0,z_x_1,z_x_2⟩:=Ae (Ac' rx.out y0_2.out)
 obtain ⟨z_y_0,z_y_1,z_y_2⟩:=Ae (Ac' ry.out y0_2.out)
 obtain ⟨z_z_0,z_z_1,z_z_2⟩:=Ae (Ac' rz.out y0_2.out)
 obtain ⟨z_h_0,z_h_1,z_h_2⟩:=Ae L2.out
 have vx:=Af' (Ac' rx.out y0_2.out)
 have vy:=Af' (Ac' ry.out y0_2.out)
 have vz:=Af' (Ac' rz.out y0_2.out)
 have vh:=Af' L2.out
 have vk:=Af' (Ac' rk.out y0_2.out)
 go_wp2_with fail
 refine wp_region_held_drew (S:=(fun w'=>(w'.cell? ⟨Bx,0,none⟩=w2.cell? ⟨Bx,0,none⟩∧w'.cell? ⟨Bx,1,none⟩=w2.cell? ⟨Bx,1,none⟩∧w'.cell? ⟨Bx,2,none⟩=w2.cell? ⟨Bx,2,none⟩∧w'.cell? ⟨By,0,none⟩=w2.cell? ⟨By,0,none⟩∧w'.cell? ⟨By,1,none⟩=w2.cell? ⟨By,1,none⟩∧w'.cell? ⟨By,2,none⟩=w2.cell? ⟨By,2,none⟩∧w'.cell? ⟨Bz,0,none⟩=w2.cell? ⟨Bz,0,none⟩∧w'.cell? ⟨Bz,1,none⟩=w2.cell? ⟨Bz,1,none⟩∧w'.cell? ⟨Bz,2,none⟩=w2.cell? ⟨Bz,2,none⟩∧w'.cell? ⟨w1.heap.size,0,none⟩=w2.cell? ⟨w1.heap.size,0,none⟩∧w'.cell? ⟨w1.heap.size,1,none⟩=w2.cell? ⟨w1.heap.size,1,none⟩∧w'.cell? ⟨w1.heap.size,2,none⟩=w2.cell? ⟨w1.heap.size,2,none⟩))) (by kernel_rfl) ?_ (fun hHeld=>?_)
 · (try dsimp only)
   exact ⟨rfl,rfl,rfl,rfl,rfl,rfl,rfl,rfl,rfl,rfl,rfl,rfl⟩
 obtain ⟨w3,hw3⟩:=eX w2.drew
 have b3:Hid (Below w2.heap.size w2 w3):=hid (by rw [hw3];exact ⟨rfl,rfl,rfl,nL _,fun _ _=>rfl⟩)
 rw [←hw3] at hHeld ⊢
 clear hw3
 have y0_3:=hid (bS y0_2.out b3.out)
 have lbW:w.heap.size≤w3.heap.size:=y0_3.out.size
 have lbS:w2.heap.size≤w3.heap.size:=b3.out.size
 have lc_k:Bk<w3.heap.size:=Af' (Ac' rk.out y0_3.out)
 refine tk (i:=0) (h:=?_)
 try simp only [Act.put,lt,ly,lu]
 refine tk (i:=1) (h:=?_)
 try simp only [Act.put,lt,ly,lu]
 refine tk (i:=3) (h:=?_)
 try simp only [Act.put,lt,ly,lu]
 refine tk (i:=4) (h:=?_)
 try simp only [Act.put,lt,ly,lu]
 refine tk (i:=5) (h:=?_)
 try simp only [Act.put,lt,ly,lu]
 refine tk (i:=7) (h:=?_)
 try simp only [Act.put,lt,ly,lu]
 have hSof:Hid (∀ u:World,Below w3.heap.size w3 u→(u.cell? ⟨Bx,0,none⟩=w2.cell? ⟨Bx,0,none⟩∧u.cell? ⟨Bx,1,none⟩=w2.cell? ⟨Bx,1,none⟩∧u.cell? ⟨Bx,2,none⟩=w2.cell? ⟨Bx,2,none⟩∧u.cell? ⟨By,0,none⟩=w2.cell? ⟨By,0,none⟩∧u.cell? ⟨By,1,none⟩=w2.cell? ⟨By,1,none⟩∧u.cell? ⟨By,2,none⟩=w2.cell? ⟨By,2,none⟩∧u.cell? ⟨Bz,0,none⟩=w2.cell? ⟨Bz,0,none⟩∧u.cell? ⟨Bz,1,none⟩=w2.cell? ⟨Bz,1,none⟩∧u.cell? ⟨Bz,2,none⟩=w2.cell? ⟨Bz,2,none⟩∧u.cell? ⟨w1.heap.size,0,none⟩=w2.cell? ⟨w1.heap.size,0,none⟩∧u.cell? ⟨w1.heap.size,1,none⟩=w2.cell? ⟨w1.heap.size,1,none⟩∧u.cell? ⟨w1.heap.size,2,none⟩=w2.cell? ⟨w1.heap.size,2,none⟩)):=hid (fun u hu=>by
   have k:=bS b3.out hu
   exact ⟨k.cell (p:=⟨Bx,0,none⟩) vx,k.cell (p:=⟨Bx,1,none⟩) vx,k.cell (p:=⟨Bx,2,none⟩) vx,k.cell (p:=⟨By,0,none⟩) vy,k.cell (p:=⟨By,1,none⟩) vy,k.cell (p:=⟨By,2,none⟩) vy,k.cell (p:=⟨Bz,0,none⟩) vz,k.cell (p:=⟨Bz,1,none⟩) vz,k.cell (p:=⟨Bz,2,none⟩) vz,k.cell (p:=⟨w1.heap.size,0,none⟩) vh,k.cell (p:=⟨w1.heap.size,1,none⟩) vh,k.cell (p:=⟨w1.heap.size,2,none⟩) vh⟩)
 clear hHeld
 refine Ce' (base:=2) (n:=9) (INV:=fun a0 nK lK aK u=>∃ (c2 c6 c8 c9 c10 d14:Bool) (vn vm vg v9 vt vu vq vf p14:Value) (b14:Nat),nK=(!c2).toNat+(!c6).toNat+(!c8).toNat+(!c9).toNat+4*(!c10).toNat+(!d14).toNat∧lK=#[true,true,c2,true,true,true,c6,true,c8,c9,c10,c10,c10,c10,d14,false,false]∧aK={ a0 with tmps:=(((((((((a0.tmps.setIfInBounds 84 vn).setIfInBounds 88 vm).setIfInBounds 90 vg).setIfInBounds 91 v9).setIfInBounds 92 vt).setIfInBounds 81 vu).setIfInBounds 93 vq).setIfInBounds 94 vf).setIfInBounds 20 p14) }∧((c2 || !c6) && (c2 || !c8) && (c6 || !c8) && (c2 || !c9) && (c6 || !c9) && (c8 || !c9) && (c2 || !c10) && (c6 || !c10) && (c8 || !c10) && (c9 || !c10))=true∧Below w3.heap.size w3 u∧(c2=true→Ad' u vn n)∧(c6=true→Ad' u vm m)∧(c8=true→Ad' u vg g)∧(c9=true→Ad' u v9 e)∧(c10=true→Ad' u vq q∧vf=Value.int .i64 0)∧BP d14 w3.heap.size u (.cells #[.bool false,.slice none 0 0,.slice none 0 0] 32) p14 b14) ?_ ?_ ?_
 · exact ⟨false,false,false,false,false,false,y84,y88,y90,y91,y92,y81,y93,y94,y20,0,rfl,rfl,(by kernel_rfl),rfl,Below.refl _ _,nofun,nofun,nofun,nofun,nofun,nofun⟩
 rotate_left
 · rintro nK lK aK u ⟨c2,c6,c8,c9,c10,d14,vn,vm,vg,v9,vt,vu,vq,vf,p14,b14,hn,rfl,rfl,hc,HB,k2,k6,k8,k9,k10,r14⟩ ih
   refine BN' (fun i=>(i==2 && !c2) || (i==6 && (c2 && !c6)) || (i==8 && (c2 && c6 && !c8)) || (i==9 && (c2 && c6 && c8 && !c9)) || (i==10 && (c2 && c6 && c8 && c9 && !c10)) || (i==14 && !d14)) ?_ ?_
   · clear ih HB r14 k10 k9 k8 k6 k2
     cases c2 <;> cases c6 <;> cases c8 <;> cases c9 <;> cases c10 <;> cases d14 <;> first | exact absurd hn (Nat.succ_ne_zero nK) | exact absurd hc Bool.false_ne_true | (clear hn hc;kernel_rfl)
   · intro iK hp
     simp only [Bool.or_eq_true,Bool.and_eq_true,beq_iff_eq,Bool.not_eq_true'] at hp
     rcases hp with (((((⟨rfl,rfl⟩ | ⟨rfl,rfl,rfl⟩) | ⟨rfl,⟨rfl,rfl⟩,rfl⟩) | ⟨rfl,⟨⟨rfl,rfl⟩,rfl⟩,rfl⟩) | ⟨rfl,⟨⟨⟨rfl,rfl⟩,rfl⟩,rfl⟩,rfl⟩) | ⟨rfl,rfl⟩)
     · refine AllReadyH.cons (o:=?oq15) ?eq15 ?kq15 AllReadyH.nil
       case eq15=>simp only [lg,lz,ls] <;> rfl
       intro K hK
       go_simp
       go_at_call 10
       refine (A9' en.out (xy.out.keep (bS y0_2.out (bS b3.out HB))) (xz.out.keep (bS y0_2.out (bS b3.out HB))) by_.out bz.out).mono ?_
       rintro eK u9 ⟨vn,rfl,kk,b9⟩
       refine hK.out _ _ (hSof.out u9 (bS HB b9)) (fun hHeld=>?_)
       clear hK
       try simp only [Act.put,lt,ly,lu]
       exact ih _ (by omega) _ _ _ ⟨true,c6,c8,c9,c10,d14,vn,vm,vg,v9,vt,vu,vq,vf,p14,b14,(by simp only [Bool.not_true,Bool.not_false,Bool.toNat_true,Bool.toNat_false] at hn ⊢;omega),rfl,(by kernel_rfl),(by cases c6 <;> cases c8 <;> cases c9 <;> cases c10 <;> first | rfl | exact hc | cases hc),bS HB b9,fun _=>kk,fun h=>(k6 h).keep b9,fun h=>(k8 h).keep b9,fun h=>(k9 h).keep b9,fun h=>⟨(k10 h).1.keep b9,(k10 h).2⟩,r14.keep b9⟩
     · refine AllReadyH.cons (o:=?oq16) ?eq16 ?kq16 AllReadyH.nil
       case eq16=>simp only [lg,lz,ls] <;> rfl
       intro K hK
       go_simp
       go_at_call 12
       refine (Cq em.out (xy.out.keep (bS y0_2.out (bS b3.out HB))) (xz.out.keep (bS y0_2.out (bS b3.out HB))) by_.out bz.out).mono ?_
       rintro eK u9 ⟨vm,rfl,kk,b9⟩
       refine hK.out _ _ (hSof.out u9 (bS HB b9)) (fun hHeld=>?_)
       clear hK
       try simp only [Act.put,lt,ly,lu]
       exact ih _ (by omega) _ _ _ ⟨true,true,c8,c9,c10,d14,vn,vm,vg,v9,vt,vu,vq,vf,p14,b14,(by simp only [Bool.not_true,Bool.not_false,Bool.toNat_true,Bool.toNat_false] at hn ⊢;omega),rfl,(by kernel_rfl),(by cases c8 <;> cases c9 <;> cases c10 <;> first | rfl | exact hc | cases hc),bS HB b9,fun h=>(k2 h).keep b9,fun _=>kk,fun h=>(k8 h).keep b9,fun h=>(k9 h).keep b9,fun h=>⟨(k10 h).1.keep b9,(k10 h).2⟩,r14.keep b9⟩
     · refine AllReadyH.cons (o:=?oq17) ?eq17 ?kq17 AllReadyH.nil
       case eq17=>simp only [lg,lz,ls] <;> rfl
       intro K hK
       go_simp
       go_at_call 13
       refine (B7' eg.out (k6 rfl) (hv1.out.keep (bS b2.out (bS b3.out HB))) bm.out bh.out).mono ?_
       rintro eK u9 ⟨vg,rfl,kk,b9⟩
       refine hK.out _ _ (hSof.out u9 (bS HB b9)) (fun hHeld=>?_)
       clear hK
       try simp only [Act.put,lt,ly,lu]
       exact ih _ (by omega) _ _ _ ⟨true,true,true,c9,c10,d14,vn,vm,vg,v9,vt,vu,vq,vf,p14,b14,(by simp only [Bool.not_true,Bool.not_false,Bool.toNat_true,Bool.toNat_false] at hn ⊢;omega),rfl,(by kernel_rfl),(by cases c9 <;> cases c10 <;> first | rfl | exact hc | cases hc),bS HB b9,fun h=>(k2 h).keep b9,fun h=>(k6 h).keep b9,fun _=>kk,fun h=>(k9 h).keep b9,fun h=>⟨(k10 h).1.keep b9,(k10 h).2⟩,r14.keep b9⟩
     · refine AllReadyH.cons (o:=?oq18) ?eq18 ?kq18 AllReadyH.nil
       case eq18=>simp only [lg,lz,ls] <;> rfl
       intro K hK
       go_simp
       go_at_call 10
       refine (A9' ee.out (xx.out.keep (bS y0_2.out (bS b3.out HB))) (k8 rfl) bx.out bg.out).mono ?_
       rintro eK u9 ⟨v9,rfl,kk,b9⟩
       refine hK.out _ _ (hSof.out u9 (bS HB b9)) (fun hHeld=>?_)
       clear hK
       try simp only [Act.put,lt,ly,lu]
       exact ih _ (by omega) _ _ _ ⟨true,true,true,true,c10,d14,vn,vm,vg,v9,vt,vu,vq,vf,p14,b14,(by simp only [Bool.not_true,Bool.not_false,Bool.toNat_true,Bool.toNat_false] at hn ⊢;omega),rfl,(by kernel_rfl),(by cases c10 <;> first | rfl | exact hc | cases hc),bS HB b9,fun h=>(k2 h).keep b9,fun h=>(k6 h).keep b9,fun h=>(k8 h).keep b9,fun _=>kk,fun h=>⟨(k10 h).1.keep b9,(k10 h).2⟩,r14.keep b9⟩
     · refine AllReadyH.cons (o:=?oq19) ?eq19 ?kq19 AllReadyH.nil
       case eq19=>simp only [lg,lz,ls] <;> rfl
       intro K hK
       go_simp
       go_at_call 11
       refine (HT' eq.out he0.out (k2 rfl) (k9 rfl) bn.out be.out).mono ?_
       rintro eK u9 ⟨vq,rfl,kk,b9⟩
       refine hK.out _ _ (hSof.out u9 (bS HB b9)) (fun hHeld=>?_)
       clear hK
       try simp only [Act.put,lt,ly,lu]
       obtain ⟨mK,rfl⟩:∃ mK,nK=mK+3:=⟨nK - 3,by simp only [Bool.not_true,Bool.not_false,Bool.toNat_true,Bool.toNat_false] at hn;omega⟩
       cases d14 <;> (
         refine tk (i:=11) (h:=?_);try simp only [Act.put,lt,ly,lu]
         refine tk (i:=12) (h:=?_);try simp only [Act.put,lt,ly,lu]
         refine tk (i:=13) (h:=?_);try simp only [Act.put,lt,ly,lu]
         exact ih _ (by omega) _ _ _ ⟨true,true,true,true,true,_,vn,vm,vg,v9,.tuple #[vq,.int .i64 0],.tuple #[vq,.int .i64 0],vq,.int .i64 0,p14,b14,(by simp only [Bool.not_true,Bool.not_false,Bool.toNat_true,Bool.toNat_false] at hn ⊢;omega),rfl,(by kernel_rfl),(by first | rfl | exact hc),bS HB b9,fun h=>(k2 h).keep b9,fun h=>(k6 h).keep b9,fun h=>(k8 h).keep b9,fun h=>(k9 h).keep b9,fun _=>⟨kk,rfl⟩,r14.keep b9⟩)
     · refine AllReadyH.cons (o:=?oq20) ?eq20 ?kq20 AllReadyH.nil
       case eq20=>simp only [lg,lz,ls] <;> rfl
       intro K hK
       go_simp
       have b9:=An u (.cells #[.bool false,.slice none 0 0,.slice none 0 0] 32)
       refine hK.out _ _ (hSof.out _ (bS HB b9)) (fun _=>?_)
       try simp only [Act.put,lt,ly,lu]
       exact ih _ (by omega) _ _ _ ⟨c2,c6,c8,c9,c10,true,vn,vm,vg,v9,vt,vu,vq,vf,.pointer (some ⟨u.heap.size,0,none⟩),u.heap.size,(by simp only [Bool.not_true,Bool.not_false,Bool.toNat_true,Bool.toNat_false] at hn ⊢;omega),rfl,(by kernel_rfl),hc,bS HB b9,fun h=>(k2 h).keep b9,fun h=>(k6 h).keep b9,fun h=>(k8 h).keep b9,fun h=>(k9 h).keep b9,fun h=>⟨(k10 h).1.keep b9,(k10 h).2⟩,.new _ HB.size⟩
 rintro lK aK w4 ⟨c2,c6,c8,c9,c10,d14,vn,vm,vg,v9,vt,vu,vq,vf,p14,b14,hn,rfl,rfl,hc,HB,k2,k6,k8,k9,k10,r14⟩
 obtain ⟨rfl,rfl,rfl,rfl,rfl,rfl⟩:c2=true∧c6=true∧c8=true∧c9=true∧c10=true∧d14=true:=by
   revert hn
   clear HB hc r14 k10 k9 k8 k6 k2
   cases c2 <;> cases c6 <;> cases c8 <;> cases c9 <;> cases c10 <;> cases d14 <;> simp
 clear hn hc
 replace k2:=k2 rfl
 replace k6:=k6 rfl
 replace k8:=k8 rfl
 replace k9:=k9 rfl
 replace k10:=k10 rfl
 obtain ⟨rfl,rr14⟩:=r14 rfl
 clear r14
 try simp only [Act.put,lt,ly,lu]
 have b4:=hid HB
 clear HB
 have hHeld:=hSof.out _ b4.out
 have L4_14:=hid rr14.2
 replace rr14:=rr14.1
 obtain ⟨k10,rfl⟩:=k10
 obtain ⟨C3,j3,C4,j4,rfl,-,-⟩:=id k10.opened
 replace k10:=hid k10
 clear k2 k6 k8 k9
 refine rd (i:=15) (h:=fun K hK=>?_)
 have DBq22:=Ac' L4_14.out (Below.refl _ w4)
 have q0:w4.cell? ⟨b14,0,none⟩=some (.bool false):=cR _ _ _ _ _ _ DBq22
 have F0:w4.frozen? ⟨b14,0,none⟩=false:=fR w4 (b14) 0 _ _ DBq22
 have q1:w4.cell? ⟨b14,1,none⟩=some (.slice none 0 0):=cR _ _ _ _ _ _ DBq22
 have F1:w4.frozen? ⟨b14,1,none⟩=false:=fR w4 (b14) 1 _ _ DBq22
 have q2:w4.cell? ⟨b14,2,none⟩=some (.slice none 0 0):=cR _ _ _ _ _ _ DBq22
 have F2:w4.frozen? ⟨b14,2,none⟩=false:=fR w4 (b14) 2 _ _ DBq22
 have y0_4:=hid (bS y0_3.out b4.out)
 have y2_4:=hid (bS b3.out b4.out)
 have hS:=y2_4.out
 have hz5:w2.heap.size≤w4.heap.size:=hS.size
 go_simp
 clear q0 F0 q1 F1 q2 F2
 have FV:=hid k10.out
 have FB:=hid y0_4.out
 obtain ⟨w5,hw⟩:=eX ((((w4.setCell ⟨b14,0,none⟩ (.bool (decide (q.num<0)))).setCell ⟨b14,1,none⟩ (.slice C3 (Vx.len q.num.natAbs) j3)).setCell ⟨b14,2,none⟩ (.slice C4 (Vx.len (below q.den)) j4)))
 have hse5:w5.heap.size=w4.heap.size:=by rw [hw];simp
 obtain ⟨E,OT,LV,BL⟩:=As' DBq22 hw
 rw [←hw]
 clear hw
 have L5:=hid E
 have FB5:=hid (BL _ _ (by omega) FB.out)
 have HS5:=hid (BL _ _ (show w2.heap.size≤b14 by omega) hS)
 have LKk5:=hid (OT _ _ (by omega) (Ac' rk.out y0_4.out))
 have KVq5:=hid (LV.num k10.out)
 have KVk5:=hid (LV.box (xk.out.keep y0_4.out))
 have s0_5:w5.cell? ⟨Bx,0,none⟩=w2.cell? ⟨Bx,0,none⟩:=(Aa' OT (by omega) (ltl vx hz5)).trans (hS.cell (p:=⟨Bx,0,none⟩) vx)
 have s1_5:w5.cell? ⟨Bx,1,none⟩=w2.cell? ⟨Bx,1,none⟩:=(Aa' OT (by omega) (ltl vx hz5)).trans (hS.cell (p:=⟨Bx,1,none⟩) vx)
 have s2_5:w5.cell? ⟨Bx,2,none⟩=w2.cell? ⟨Bx,2,none⟩:=(Aa' OT (by omega) (ltl vx hz5)).trans (hS.cell (p:=⟨Bx,2,none⟩) vx)
 have s3_5:w5.cell? ⟨By,0,none⟩=w2.cell? ⟨By,0,none⟩:=(Aa' OT (by omega) (ltl vy hz5)).trans (hS.cell (p:=⟨By,0,none⟩) vy)
 have s4_5:w5.cell? ⟨By,1,none⟩=w2.cell? ⟨By,1,none⟩:=(Aa' OT (by omega) (ltl vy hz5)).trans (hS.cell (p:=⟨By,1,none⟩) vy)
 have s5_5:w5.cell? ⟨By,2,none⟩=w2.cell? ⟨By,2,none⟩:=(Aa' OT (by omega) (ltl vy hz5)).trans (hS.cell (p:=⟨By,2,none⟩) vy)
 have s6_5:w5.cell? ⟨Bz,0,none⟩=w2.cell? ⟨Bz,0,none⟩:=(Aa' OT (by omega) (ltl vz hz5)).trans (hS.cell (p:=⟨Bz,0,none⟩) vz)
 have s7_5:w5.cell? ⟨Bz,1,none⟩=w2.cell? ⟨Bz,1,none⟩:=(Aa' OT (by omega) (ltl vz hz5)).trans (hS.cell (p:=⟨Bz,1,none⟩) vz)
 have s8_5:w5.cell? ⟨Bz,2,none⟩=w2.cell? ⟨Bz,2,none⟩:=(Aa' OT (by omega) (ltl vz hz5)).trans (hS.cell (p:=⟨Bz,2,none⟩) vz)
 have s9_5:w5.cell? ⟨w1.heap.size,0,none⟩=w2.cell? ⟨w1.heap.size,0,none⟩:=(Aa' OT (by omega) (ltl vh hz5)).trans (hS.cell (p:=⟨w1.heap.size,0,none⟩) vh)
 have s10_5:w5.cell? ⟨w1.heap.size,1,none⟩=w2.cell? ⟨w1.heap.size,1,none⟩:=(Aa' OT (by omega) (ltl vh hz5)).trans (hS.cell (p:=⟨w1.heap.size,1,none⟩) vh)
 have s11_5:w5.cell? ⟨w1.heap.size,2,none⟩=w2.cell? ⟨w1.heap.size,2,none⟩:=(Aa' OT (by omega) (ltl vh hz5)).trans (hS.cell (p:=⟨w1.heap.size,2,none⟩) vh)
 refine hK.out _ _ ?_ (fun hHeld2=>?_)
 · (try dsimp only)
   exact ⟨s0_5,s1_5,s2_5,s3_5,s4_5,s5_5,s6_5,s7_5,s8_5,s9_5,s10_5,s11_5⟩
 clear hK K hHeld hS OT LV BL FV FB E DBq22 s0_5 s1_5 s2_5 s3_5 s4_5 s5_5 s6_5 s7_5 s8_5 s9_5 s10_5 s11_5
 try simp only [Act.put,lt,ly,lu]
 have hHeld:=hHeld2
 clear hHeld2
 refine tk (i:=16) (h:=?_)
 try simp only [Act.put,lt,ly,lu]
 refine wpAnyH_done (by kernel_rfl) ?_ _
 clear hHeld
 obtain ⟨z_q_0,z_q_1,z_q_2⟩:=Ae L5.out
 obtain ⟨z_k_0,z_k_1,z_k_2,z_k_3,z_k_4,z_k_5⟩:=Af LKk5.out
 go_upto_region 10 with fail
 rename_i G hG Gb hGb
 replace hG:=hid hG
 have HX:=hid ((show Calls _ _ _ _ (BF _ true) from hdec.out ▸ Cl KVk5.out KVq5.out (nT hks.out.1 (by omega)) (nT hks.out.2 (by omega)) (nT sq.out (by omega))))
 go_wp2_with fail
 refine (HX.out).mono ?_
 rintro e w6 ⟨rfl,b6⟩
 replace b6:=hid b6
 clear HX
 have FB:=hid (bS FB5.out b6.out)
 go_wp2_with fail
 refine hG.out _ _ ?_
 exact Hh' (ha.out.keep FB.out) (hb.out.keep FB.out) (hd.out.keep FB.out) (hk.out.keep FB.out) hf.out (Ar' hT.out FB.out) (Ac' hc.out FB.out) h1.out h2.out h3.out h4.out h5.out h6.out (fun w' h=>hPo.out w' (Ae' FB.out h))
end Go.Proofs.YtcicfnlljdnagaaGreatDoor.Rf
