/-
  Contracts of the functions that the law calls, for every input (Sqb Sqc).
-/
import Derived.Test.YtcicfnlljdnagaaGreatDoorY00
import Derived.Test.YtcicfnlljdnagaaGreatDoorY44
import Derived.Test.YtcicfnlljdnagaaGreatDoorY30
import Derived.Test.YtcicfnlljdnagaaGreatDoorY36
import Derived.Test.YtcicfnlljdnagaaGreatDoorY39
set_option linter.all false
set_option maxRecDepth 100000
set_option maxHeartbeats 40000000
namespace Go.Proofs.YtcicfnlljdnagaaGreatDoor.Rf
open Lib (hid)
open Go.RowKit
open Rx
open Vx (Ab' Ah Ah')
open List renaming getElem?_toArray → lg, getElem?_cons_zero → lz, getElem?_cons_succ → ls, setIfInBounds_toArray → lt, set_cons_zero → ly, set_cons_succ → lu
def AZ' (a0 a1 m0 m1 d0 d1 k0 k1:Rat):Prop:=cornLo Ap' a0 a1 m0 m1 d0 d1=k0∧cornHi Ap' a0 a1 m0 m1 d0 d1=k1∧¬ (cornLo divisorQ a0 a1 m0 m1 d0 d1≤0∧0≤cornHi divisorQ a0 a1 m0 m1 d0 d1)∧(Ab' a0≤20∧Ab' a1≤20)∧(Ab' m0≤20∧Ab' m1≤20)∧(Ab' d0≤20∧Ab' d1≤20)
theorem AZ'.ksiz {a0 a1 m0 m1 d0 d1 k0 k1:Rat} (h:AZ' a0 a1 m0 m1 d0 d1 k0 k1):Ab' k0≤200∧Ab' k1≤200:=by
 obtain ⟨h1,h2,-,ha,hb,hd⟩:=h
 have:=CD' (F:=Ap') (P:=fun q=>Ab' q≤200) (a0:=a0) (a1:=a1) (b0:=m0) (b1:=m1) (c0:=d0) (c1:=d1) (fun x hx y hy z hz=>by
   have i1:=Ap hx ha.1 ha.2
   have i2:=Ap hy hb.1 hb.2
   have i3:=Ap hz hd.1 hd.2
   have:=DD x y z
   show Ab' _≤_
   omega)
 rw [h1,h2] at this
 exact this
theorem GC {w:World} {v0:Value} {a b p q:Rat} (hp : -b=p) (hq : -a=q) (hv:Aj w v0 a b) (sa:Ab' a≤34359738368) (sb:Ab' b≤34359738368) :
   Calls Tryz.prog 20 #[v0] w (AQ w p q):=by rw [←hp,←hq];exact FO hv sa sb
theorem Cg {w:World} {vx vy:Value} {p q:Rat} (hx:Aj w vx p q) (hy:Aj w vy p q) (sp:Ab' p≤16777216) (sq:Ab' q≤16777216):Calls Tryz.prog 18 #[vx,vy] w (BF w true):=EQ' (r:=true) (by simp) hx hy sp sq sp sq
theorem DV {w:World} {Ba Bb Bd Bk:Nat} {a0 a1 m0 m1 d0 d1 k0 k1:Rat}  {y0 y1 y2 y3 y4 y5 y6 y8 y10 y12 y14 y15 y16 y17 y18 y19 y20 y21 y22 y23 y24 y25 y26 y27 y28 y29 y30 y31 y32 y33 y34 y35 y36 y37 y38 y39 y40 y41 y42 y43 y44 y45 y46 y47 y48 y49 y50 y51 y52 y53 y54 y55 y56 y57 y58 y59 y60 y61 y62 y63 y64 y65 y66 y67 y68 y69 y70 y71 y72 y73 y74 y75 y76 y77 y78 y79 y80 y81 y82 y83 y84 y85 y86 y87 y88 y89 y90 y91 y92 y93 y94 y95 y96 y97 y98 y99 y100 y101 y102 y103 y104 y105 y106 y107 y108 y109 y110 y111 y112 y113 y114 y115 y116 y117 y118 y119 y120 y121 y122 y123 y124 y125 y126 y127 y128 y129 y130 y131 y132 y133 y134 y135 y136 y137 y138 y139 y140 y141 y142 y143 y144 y145 y146 y147 y148 y149 y150 y151 y152 y153 y154 y155 y156 y157 y158 y159 y160 y161 y162 y163 y164 y165 y166 y167 y168 y169 y170 y171 y172 y173 y174:Value} {Po:Ending→World→Prop} (ha:AH' w Ba (a0,a1)) (hb:AH' w Bb (m0,m1)) (hd:AH' w Bd (d0,d1)) (hk:AH' w Bk (k0,k1)) (hf:AZ' a0 a1 m0 m1 d0 d1 k0 k1) (hT:TabAt 0 Lib.deBruijn64tab w)  (hPo:∀ w',Below w.heap.size w w'→Po (.returned (.bool true)) w') :
   (codeAt 14 Tryz.f3).wp Tryz.prog (bodyPost Tryz.prog Tryz.f3 Po) { tmps:=#[y0,y1,y2,y3,y4,y5,y6,.pointer (some ⟨Ba,0,none⟩),y8,.pointer (some ⟨Bb,0,none⟩),y10,.pointer (some ⟨Bd,0,none⟩),y12,.pointer (some ⟨Bk,0,none⟩),y14,y15,y16,y17,y18,y19,y20,y21,y22,y23,y24,y25,y26,y27,y28,y29,y30,y31,y32,y33,y34,y35,y36,y37,y38,y39,y40,y41,y42,y43,y44,y45,y46,y47,y48,y49,y50,y51,y52,y53,y54,y55,y56,y57,y58,y59,y60,y61,y62,y63,y64,y65,y66,y67,y68,y69,y70,y71,y72,y73,y74,y75,y76,y77,y78,y79,y80,y81,y82,y83,y84,y85,y86,y87,y88,y89,y90,y91,y92,y93,y94,y95,y96,y97,y98,y99,y100,y101,y102,y103,y104,y105,y106,y107,y108,y109,y110,y111,y112,y113,y114,y115,y116,y117,y118,y119,y120,y121,y122,y123,y124,y125,y126,y127,y128,y129,y130,y131,y132,y133,y134,y135,y136,y137,y138,y139,y140,y141,y142,y143,y144,y145,y146,y147,y148,y149,y150,y151,y152,y153,y154,y155,y156,y157,y158,y159,y160,y161,y162,y163,y164,y165,y166,y167,y168,y169,y170,y171,y172,y173,y174],defers:=[] } w:=by
 have hks:=hf.ksiz
 obtain ⟨p,ep⟩:=eY (-k1:Rat)
 obtain ⟨q,eq⟩:=eY (-k0:Rat)
 have E1:=Eb' (a0:=a0) (a1:=a1) (b0:=m0) (b1:=m1) (d0:=d0) (d1:=d1)
 rw [hf.1,hf.2.1,ep,eq] at E1
 have E2:=Do (a0:=a0) (a1:=a1) (b0:=m0) (b1:=m1) (d0:=d0) (d1:=d1)
 have h0:=hf.2.2.1
 rw [←E2.1,←E2.2] at h0
 have sp:Ab' p≤200:=by rw [←ep,Vx.Dl];exact hks.2
 have sq:Ab' q≤200:=by rw [←eq,Vx.Dl];exact hks.1
 clear E2
 obtain ⟨Xa1,ca1,Xa2,ca2,Xa3,ca3,Xa4,ca4,ra,xa⟩:=id ha
 dsimp only at ra xa
 have la:=Af' ra
 replace ra:=hid ra
 replace xa:=hid xa
 obtain ⟨Xb1,cb1,Xb2,cb2,Xb3,cb3,Xb4,cb4,rb,xb⟩:=id hb
 dsimp only at rb xb
 have lb:=Af' rb
 replace rb:=hid rb
 replace xb:=hid xb
 obtain ⟨Xd1,cd1,Xd2,cd2,Xd3,cd3,Xd4,cd4,rdq,xd⟩:=id hd
 dsimp only at rdq xd
 have ld:=Af' rdq
 replace rdq:=hid rdq
 replace xd:=hid xd
 obtain ⟨Xk1,ck1,Xk2,ck2,Xk3,ck3,Xk4,ck4,rk,xk⟩:=id hk
 dsimp only at rk xk
 have lk:=Af' rk
 replace rk:=hid rk
 replace xk:=hid xk
 replace ep:=hid ep
 replace eq:=hid eq
 replace E1:=hid E1
 replace h0:=hid h0
 replace sp:=hid sp
 replace sq:=hid sq
 replace hf:=hid hf
 replace hks:=hid hks
 replace hT:=hid hT
 replace hPo:=hid hPo
 replace ha:=hid ha
 replace hb:=hid hb
 replace hd:=hid hd
 replace hk:=hid hk
 show Code.wp _ (Code.seq _ _) _ _ _
 obtain ⟨z_a_0,z_a_1,z_a_2,z_a_3,z_a_4,z_a_5⟩:=Af ra.out
 obtain ⟨z_d_0,z_d_1,z_d_2,z_d_3,z_d_4,z_d_5⟩:=Af rdq.out
 obtain ⟨z_b_0,z_b_1,z_b_2,z_b_3,z_b_4,z_b_5⟩:=Af rb.out
 have HX:=hid (BH xa.out xd.out xb.out ⟨nT hf.out.2.2.2.1.1 (by omega),nT hf.out.2.2.2.1.2 (by omega)⟩ ⟨nT hf.out.2.2.2.2.2.1 (by omega),nT hf.out.2.2.2.2.2.2 (by omega)⟩ ⟨nT hf.out.2.2.2.2.1.1 (by omega),nT hf.out.2.2.2.2.1.2 (by omega)⟩ h0.out E1.out.1 E1.out.2)
 go_wp2_with fail
 refine (HX.out).mono ?_
 rintro e w1 ⟨v1,rfl,hv1,b1⟩
 obtain ⟨C1,j1,C2,j2,C3,j3,C4,j4,rfl,-,-,-,-⟩:=id hv1.opened
 replace hv1:=hid hv1
 replace b1:=hid b1
 clear HX
 clear z_a_0 z_a_1 z_a_2 z_a_3 z_a_4 z_a_5 z_d_0 z_d_1 z_d_2 z_d_3 z_d_4 z_d_5 z_b_0 z_b_1 z_b_2 z_b_3 z_b_4 z_b_5
 go_upto_region 22 with fail
 obtain ⟨w2,hw2⟩:=eX (w1.alloc (.cells #[.bool (decide (p.num<0)),.slice C1 (Vx.len p.num.natAbs) j1,.slice C2 (Vx.len (below p.den)) j2,.bool (decide (q.num<0)),.slice C3 (Vx.len q.num.natAbs) j3,.slice C4 (Vx.len (below q.den)) j4] 34))
 have b2:=hid (Ar hw2)
 have L2:=hid (At' hw2)
 rw [←hw2]
 clear hw2
 obtain ⟨z_o_0,z_o_1,z_o_2,z_o_3,z_o_4,z_o_5⟩:=Af L2.out
 have y0_2:=hid (bS b1.out b2.out)
 obtain ⟨z_k_0,z_k_1,z_k_2,z_k_3,z_k_4,z_k_5⟩:=Af (Ac' rk.out y0_2.out)
 have lo:=Af' L2.out
 have lk2:=Af' (Ac' rk.out y0_2.out)
 go_wp2_with fail
 refine wp_region_held_drew (S:=(fun w'=>(w'.cell? ⟨w1.heap.size,0,none⟩=w2.cell? ⟨w1.heap.size,0,none⟩∧w'.cell? ⟨w1.heap.size,1,none⟩=w2.cell? ⟨w1.heap.size,1,none⟩∧w'.cell? ⟨w1.heap.size,2,none⟩=w2.cell? ⟨w1.heap.size,2,none⟩∧w'.cell? ⟨w1.heap.size,3,none⟩=w2.cell? ⟨w1.heap.size,3,none⟩∧w'.cell? ⟨w1.heap.size,4,none⟩=w2.cell? ⟨w1.heap.size,4,none⟩∧w'.cell? ⟨w1.heap.size,5,none⟩=w2.cell? ⟨w1.heap.size,5,none⟩∧w'.cell? ⟨Bk,0,none⟩=w2.cell? ⟨Bk,0,none⟩∧w'.cell? ⟨Bk,1,none⟩=w2.cell? ⟨Bk,1,none⟩∧w'.cell? ⟨Bk,2,none⟩=w2.cell? ⟨Bk,2,none⟩∧w'.cell? ⟨Bk,3,none⟩=w2.cell? ⟨Bk,3,none⟩∧w'.cell? ⟨Bk,4,none⟩=w2.cell? ⟨Bk,4,none⟩∧w'.cell? ⟨Bk,5,none⟩=w2.cell? ⟨Bk,5,none⟩))) (by kernel_rfl) ?_ (fun hHeld=>?_)
 · (try dsimp only)
   exact ⟨rfl,rfl,rfl,rfl,rfl,rfl,rfl,rfl,rfl,rfl,rfl,rfl⟩
 obtain ⟨w3,hw3⟩:=eX w2.drew
 have b3:Hid (Below w2.heap.size w2 w3):=hid (by rw [hw3];exact ⟨rfl,rfl,rfl,nL _,fun _ _=>rfl⟩)
 rw [←hw3] at hHeld ⊢
 clear hw3
 have y0_3:=hid (bS y0_2.out b3.out)
 have lbW:w.heap.size≤w3.heap.size:=y0_3.out.size
 have lbS:w2.heap.size≤w3.heap.size:=b3.out.size
 refine tk (i:=0) (h:=?_)
 try simp only [Act.put,lt,ly,lu]
 refine tk (i:=1) (h:=?_)
 try simp only [Act.put,lt,ly,lu]
 refine tk (i:=2) (h:=?_)
 try simp only [Act.put,lt,ly,lu]
 refine tk (i:=3) (h:=?_)
 try simp only [Act.put,lt,ly,lu]
 refine tk (i:=4) (h:=?_)
 try simp only [Act.put,lt,ly,lu]
 refine rd (i:=5) (h:=fun K hK=>?_)
 go_simp;go_at_call 20
 refine (GC ep.out eq.out (xk.out.keep y0_3.out) (nT hks.out.1 (by omega)) (nT hks.out.2 (by omega))).mono ?_
 rintro e w4 ⟨v4,rfl,hv4,b4⟩
 obtain ⟨C5,j5,C6,j6,C7,j7,C8,j8,rfl,-,-,-,-⟩:=id hv4.opened
 replace hv4:=hid hv4
 replace b4:=hid b4
 have y2_4:=hid (bS b3.out b4.out)
 have hS:=y2_4.out
 clear hHeld
 refine hK.out _ _ ?_ (fun hHeld=>?_)
 · (try dsimp only)
   exact ⟨hS.cell (p:=⟨w1.heap.size,0,none⟩) lo,hS.cell (p:=⟨w1.heap.size,1,none⟩) lo,hS.cell (p:=⟨w1.heap.size,2,none⟩) lo,hS.cell (p:=⟨w1.heap.size,3,none⟩) lo,hS.cell (p:=⟨w1.heap.size,4,none⟩) lo,hS.cell (p:=⟨w1.heap.size,5,none⟩) lo,hS.cell (p:=⟨Bk,0,none⟩) lk2,hS.cell (p:=⟨Bk,1,none⟩) lk2,hS.cell (p:=⟨Bk,2,none⟩) lk2,hS.cell (p:=⟨Bk,3,none⟩) lk2,hS.cell (p:=⟨Bk,4,none⟩) lk2,hS.cell (p:=⟨Bk,5,none⟩) lk2⟩
 clear hK K hS;try simp only [Act.put,lt,ly,lu]
 refine rd (i:=6) (h:=fun K hK=>?_)
 have y1_4:=hid (bS (bS b2.out b3.out) b4.out)
 go_simp;go_at_call 18
 refine (Cg (hv1.out.keep y1_4.out) hv4.out (nT sp.out (by omega)) (nT sq.out (by omega))).mono ?_
 rintro e w5 ⟨rfl,b5⟩
 replace b5:=hid b5
 have y2_5:=hid (bS y2_4.out b5.out)
 have hS:=y2_5.out
 clear hHeld
 refine hK.out _ _ ?_ (fun hHeld=>?_)
 · (try dsimp only)
   exact ⟨hS.cell (p:=⟨w1.heap.size,0,none⟩) lo,hS.cell (p:=⟨w1.heap.size,1,none⟩) lo,hS.cell (p:=⟨w1.heap.size,2,none⟩) lo,hS.cell (p:=⟨w1.heap.size,3,none⟩) lo,hS.cell (p:=⟨w1.heap.size,4,none⟩) lo,hS.cell (p:=⟨w1.heap.size,5,none⟩) lo,hS.cell (p:=⟨Bk,0,none⟩) lk2,hS.cell (p:=⟨Bk,1,none⟩) lk2,hS.cell (p:=⟨Bk,2,none⟩) lk2,hS.cell (p:=⟨Bk,3,none⟩) lk2,hS.cell (p:=⟨Bk,4,none⟩) lk2,hS.cell (p:=⟨Bk,5,none⟩) lk2⟩
 clear hK K hS;try simp only [Act.put,lt,ly,lu]
 refine tk (i:=7) (h:=?_)
 try simp only [Act.put,lt,ly,lu]
 refine tk (i:=8) (h:=?_)
 try simp only [Act.put,lt,ly,lu]
 refine rd (i:=9) (h:=fun K hK=>?_)
 have y0_5:=hid (bS (bS y0_3.out b4.out) b5.out)
 go_simp;go_at_call 7
 refine (DT' (Ar' hT.out y0_5.out)).mono ?_
 rintro e w6 ⟨rfl,b6⟩
 replace b6:=hid b6
 have y2_6:=hid (bS y2_5.out b6.out)
 have hS:=y2_6.out
 clear hHeld
 refine hK.out _ _ ?_ (fun hHeld=>?_)
 · (try dsimp only)
   exact ⟨hS.cell (p:=⟨w1.heap.size,0,none⟩) lo,hS.cell (p:=⟨w1.heap.size,1,none⟩) lo,hS.cell (p:=⟨w1.heap.size,2,none⟩) lo,hS.cell (p:=⟨w1.heap.size,3,none⟩) lo,hS.cell (p:=⟨w1.heap.size,4,none⟩) lo,hS.cell (p:=⟨w1.heap.size,5,none⟩) lo,hS.cell (p:=⟨Bk,0,none⟩) lk2,hS.cell (p:=⟨Bk,1,none⟩) lk2,hS.cell (p:=⟨Bk,2,none⟩) lk2,hS.cell (p:=⟨Bk,3,none⟩) lk2,hS.cell (p:=⟨Bk,4,none⟩) lk2,hS.cell (p:=⟨Bk,5,none⟩) lk2⟩
 clear hK K hS;try simp only [Act.put,lt,ly,lu]
 refine tk (i:=10) (h:=?_)
 try simp only [Act.put,lt,ly,lu]
 refine tk (i:=11) (h:=?_)
 try simp only [Act.put,lt,ly,lu]
 refine wpAnyH_done (by kernel_rfl) ?_ _
 clear hHeld
 have y0_6:=hid (bS y0_5.out b6.out)
 have FB:=hid y0_6.out
 go_wp2_with fail
 exact hPo.out _ FB.out
theorem Dg' {a b s l h:Rat} {m:Nat} (el:leastOf (a*s) [a*s,b*s,b*s]=l) (eh:greatestOf (a*s) [a*s,b*s,b*s]=h) (sa:Ab' a≤20∧Ab' b≤20) (ss:Ab' s≤20):Ab' l≤40∧Ab' h≤40:=by
 have key:∀ z,z∈[l,h]→Ab' z≤40:=fun z hz=>by
   obtain ⟨x,hx,rfl⟩:=(Co' el eh z).1 hz
   have h1:=Ap hx sa.1 sa.2
   have h2:=Vx.A9 x s
   omega
 exact ⟨key l (by simp),key h (by simp)⟩
theorem H7 {M:Int} {D:Nat} {s:Rat} (hM:M≠0) (es:AE M D=s):s≠0:=by
 rintro rfl
 unfold AE at es
 have hd:(((D%16+1:Nat):Int):Rat)≠0:=fun e=>by
   have:=Rat.intCast_inj.1 (e.trans Rat.intCast_zero.symm)
   omega
 have h1:=Rat.div_mul_cancel (a:=(M:Rat)) hd
 rw [es,Rat.zero_mul] at h1
 exact hM (Rat.intCast_inj.1 (h1.symm.trans Rat.intCast_zero.symm))
theorem Eu {w:World} {Ba Bb Bd Bk:Nat} {a0 a1 m0 m1 d0 d1 k0 k1:Rat} {Bc s0 t0 D E:Nat} {M N:Int} {y0 y1 y2 y3 y4 y6 y8 y10 y12 y14 y15 y16 y17 y18 y19 y20 y21 y22 y23 y24 y25 y26 y27 y28 y29 y30 y31 y32 y33 y34 y35 y36 y37 y38 y39 y40 y41 y42 y43 y44 y45 y46 y47 y48 y49 y50 y51 y52 y53 y54 y55 y56 y57 y58 y59 y60 y61 y62 y63 y64 y65 y66 y67 y68 y69 y70 y71 y72 y73 y74 y75 y76 y77 y78 y79 y80 y81 y82 y83 y84 y85 y86 y87 y88 y89 y90 y91 y92 y93 y94 y95 y96 y97 y98 y99 y100 y101 y102 y103 y104 y105 y106 y107 y108 y109 y110 y111 y112 y113 y114 y115 y116 y117 y118 y119 y120 y121 y122 y123 y124 y125 y126 y127 y128 y129 y130 y131 y132 y133 y134 y135 y136 y137 y138 y139 y140 y141 y142 y143 y144 y145 y146 y147 y148 y149 y150 y151 y152 y153 y154 y155 y156 y157 y158 y159 y160 y161 y162 y163 y164 y165 y166 y167 y168 y169 y170 y171 y172 y173 y174:Value} {Po:Ending→World→Prop} (ha:AH' w Ba (a0,a1)) (hb:AH' w Bb (m0,m1)) (hd:AH' w Bd (d0,d1)) (hk:AH' w Bk (k0,k1)) (hf:AZ' a0 a1 m0 m1 d0 d1 k0 k1) (hT:TabAt 0 Lib.deBruijn64tab w) (hc:w.heap[Bc]?=some (.cells #[.int .u8 ((s0:Nat):Int),.int .u8 ((t0:Nat):Int),.int .i32 M,.int .u8 ((D:Nat):Int),.int .i32 N,.int .u8 ((E:Nat):Int)] 28 (0,0))) (h1 : -2147483648≤M) (h2:M≤2147483647) (h3:D≤255) (hM:M=0) (hPo:∀ w',Below w.heap.size w w'→Po (.returned (.bool true)) w') :
   (codeAt 13 Tryz.f3).wp Tryz.prog (bodyPost Tryz.prog Tryz.f3 Po) { tmps:=#[y0,y1,y2,y3,y4,.pointer (some ⟨Bc,0,none⟩),y6,.pointer (some ⟨Ba,0,none⟩),y8,.pointer (some ⟨Bb,0,none⟩),y10,.pointer (some ⟨Bd,0,none⟩),y12,.pointer (some ⟨Bk,0,none⟩),y14,y15,y16,y17,y18,y19,y20,y21,y22,y23,y24,y25,y26,y27,y28,y29,y30,y31,y32,y33,y34,y35,y36,y37,y38,y39,y40,y41,y42,y43,y44,y45,y46,y47,y48,y49,y50,y51,y52,y53,y54,y55,y56,y57,y58,y59,y60,y61,y62,y63,y64,y65,y66,y67,y68,y69,y70,y71,y72,y73,y74,y75,y76,y77,y78,y79,y80,y81,y82,y83,y84,y85,y86,y87,y88,y89,y90,y91,y92,y93,y94,y95,y96,y97,y98,y99,y100,y101,y102,y103,y104,y105,y106,y107,y108,y109,y110,y111,y112,y113,y114,y115,y116,y117,y118,y119,y120,y121,y122,y123,y124,y125,y126,y127,y128,y129,y130,y131,y132,y133,y134,y135,y136,y137,y138,y139,y140,y141,y142,y143,y144,y145,y146,y147,y148,y149,y150,y151,y152,y153,y154,y155,y156,y157,y158,y159,y160,y161,y162,y163,y164,y165,y166,y167,y168,y169,y170,y171,y172,y173,y174],defers:=[] } w:=by
 have lc:=Af' hc
 obtain ⟨Xa1,ca1,Xa2,ca2,Xa3,ca3,Xa4,ca4,ra,xa⟩:=id ha
 dsimp only at ra xa
 have la:=Af' ra
 replace ra:=hid ra
 replace xa:=hid xa
 obtain ⟨Xb1,cb1,Xb2,cb2,Xb3,cb3,Xb4,cb4,rb,xb⟩:=id hb
 dsimp only at rb xb
 have lb:=Af' rb
 replace rb:=hid rb
 replace xb:=hid xb
 obtain ⟨Xd1,cd1,Xd2,cd2,Xd3,cd3,Xd4,cd4,rdq,xd⟩:=id hd
 dsimp only at rdq xd
 have ld:=Af' rdq
 replace rdq:=hid rdq
 replace xd:=hid xd
 obtain ⟨Xk1,ck1,Xk2,ck2,Xk3,ck3,Xk4,ck4,rk,xk⟩:=id hk
 dsimp only at rk xk
 have lk:=Af' rk
 replace rk:=hid rk
 replace xk:=hid xk
 have zc0:w.cell? ⟨Bc,0,none⟩=some (.int .u8 ((s0:Nat):Int)):=cR _ _ 0 _ _ _ hc
 have zc1:w.cell? ⟨Bc,1,none⟩=some (.int .u8 ((t0:Nat):Int)):=cR _ _ 1 _ _ _ hc
 have zc2:w.cell? ⟨Bc,2,none⟩=some (.int .i32 M):=cR _ _ 2 _ _ _ hc
 have zc3:w.cell? ⟨Bc,3,none⟩=some (.int .u8 ((D:Nat):Int)):=cR _ _ 3 _ _ _ hc
 have zc4:w.cell? ⟨Bc,4,none⟩=some (.int .i32 N):=cR _ _ 4 _ _ _ hc
 have zc5:w.cell? ⟨Bc,5,none⟩=some (.int .u8 ((E:Nat):Int)):=cR _ _ 5 _ _ _ hc
 subst hM
 have FB:=hid (Below.refl w.heap.size w)
 replace hf:=hid hf
 replace hT:=hid hT
 replace hPo:=hid hPo
 replace ha:=hid ha
 replace hb:=hid hb
 replace hd:=hid hd
 replace hk:=hid hk
 replace hc:=hid hc
 replace h1:=hid h1
 replace h2:=hid h2
 replace h3:=hid h3
 show Code.wp _ (Code.seq _ _) _ _ _
 refine wp_seq_k ?_
 intro G hG
 replace hG:=hid hG
 go_wp2_with fail
 refine hG.out _ _ ?_
 exact DV (ha.out.keep FB.out) (hb.out.keep FB.out) (hd.out.keep FB.out) (hk.out.keep FB.out) hf.out (Ar' hT.out FB.out) (fun w' h=>hPo.out w' (Ae' FB.out h))
theorem Hg' {w:World} {Ba Bb Bd Bk:Nat} {a0 a1 m0 m1 d0 d1 k0 k1:Rat} {Bc s0 t0 D E:Nat} {M N:Int} {y0 y1 y2 y3 y4 y6 y8 y10 y12 y14 y15 y16 y17 y18 y19 y20 y21 y22 y23 y24 y25 y26 y27 y28 y29 y30 y31 y32 y33 y34 y35 y36 y37 y38 y39 y40 y41 y42 y43 y44 y45 y46 y47 y48 y49 y50 y51 y52 y53 y54 y55 y56 y57 y58 y59 y60 y61 y62 y63 y64 y65 y66 y67 y68 y69 y70 y71 y72 y73 y74 y75 y76 y77 y78 y79 y80 y81 y82 y83 y84 y85 y86 y87 y88 y89 y90 y91 y92 y93 y94 y95 y96 y97 y98 y99 y100 y101 y102 y103 y104 y105 y106 y107 y108 y109 y110 y111 y112 y113 y114 y115 y116 y117 y118 y119 y120 y121 y122 y123 y124 y125 y126 y127 y128 y129 y130 y131 y132 y133 y134 y135 y136 y137 y138 y139 y140 y141 y142 y143 y144 y145 y146 y147 y148 y149 y150 y151 y152 y153 y154 y155 y156 y157 y158 y159 y160 y161 y162 y163 y164 y165 y166 y167 y168 y169 y170 y171 y172 y173 y174:Value} {Po:Ending→World→Prop} (ha:AH' w Ba (a0,a1)) (hb:AH' w Bb (m0,m1)) (hd:AH' w Bd (d0,d1)) (hk:AH' w Bk (k0,k1)) (hf:AZ' a0 a1 m0 m1 d0 d1 k0 k1) (hT:TabAt 0 Lib.deBruijn64tab w) (hc:w.heap[Bc]?=some (.cells #[.int .u8 ((s0:Nat):Int),.int .u8 ((t0:Nat):Int),.int .i32 M,.int .u8 ((D:Nat):Int),.int .i32 N,.int .u8 ((E:Nat):Int)] 28 (0,0))) (h1 : -2147483648≤M) (h2:M≤2147483647) (h3:D≤255) (hM:M≠0) (hPo:∀ w',Below w.heap.size w w'→Po (.returned (.bool true)) w') :
   (codeAt 13 Tryz.f3).wp Tryz.prog (bodyPost Tryz.prog Tryz.f3 Po) { tmps:=#[y0,y1,y2,y3,y4,.pointer (some ⟨Bc,0,none⟩),y6,.pointer (some ⟨Ba,0,none⟩),y8,.pointer (some ⟨Bb,0,none⟩),y10,.pointer (some ⟨Bd,0,none⟩),y12,.pointer (some ⟨Bk,0,none⟩),y14,y15,y16,y17,y18,y19,y20,y21,y22,y23,y24,y25,y26,y27,y28,y29,y30,y31,y32,y33,y34,y35,y36,y37,y38,y39,y40,y41,y42,y43,y44,y45,y46,y47,y48,y49,y50,y51,y52,y53,y54,y55,y56,y57,y58,y59,y60,y61,y62,y63,y64,y65,y66,y67,y68,y69,y70,y71,y72,y73,y74,y75,y76,y77,y78,y79,y80,y81,y82,y83,y84,y85,y86,y87,y88,y89,y90,y91,y92,y93,y94,y95,y96,y97,y98,y99,y100,y101,y102,y103,y104,y105,y106,y107,y108,y109,y110,y111,y112,y113,y114,y115,y116,y117,y118,y119,y120,y121,y122,y123,y124,y125,y126,y127,y128,y129,y130,y131,y132,y133,y134,y135,y136,y137,y138,y139,y140,y141,y142,y143,y144,y145,y146,y147,y148,y149,y150,y151,y152,y153,y154,y155,y156,y157,y158,y159,y160,y161,y162,y163,y164,y165,y166,y167,y168,y169,y170,y171,y172,y173,y174],defers:=[] } w:=by
 obtain ⟨s,es⟩:=eY (AE M D)
 have hs0:=H7 hM es
 have ss:=AK h1 h2 es
 have hM1:(M != 0)=true:=by simpa using hM
 obtain ⟨loa,ela⟩:=eY (leastOf (a0*s) [a0*s,a1*s,a1*s])
 obtain ⟨ua,eha⟩:=eY (greatestOf (a0*s) [a0*s,a1*s,a1*s])
 have za:=Dg' (m:=0) ela eha hf.2.2.2.1 ss
 obtain ⟨lob,elb⟩:=eY (leastOf (m0*s) [m0*s,m1*s,m1*s])
 obtain ⟨ub,ehb⟩:=eY (greatestOf (m0*s) [m0*s,m1*s,m1*s])
 have zb:=Dg' (m:=0) elb ehb hf.2.2.2.2.1 ss
 obtain ⟨lod,eld⟩:=eY (leastOf (d0*s) [d0*s,d1*s,d1*s])
 obtain ⟨ud,ehd⟩:=eY (greatestOf (d0*s) [d0*s,d1*s,d1*s])
 have zd:=Dg' (m:=0) eld ehd hf.2.2.2.2.2 ss
 have E0:=DU' hs0 (Co' ela eha) (Co' elb ehb) (Co' eld ehd) hf.2.2.1
 rw [hf.1,hf.2.1] at E0
 have hks:=hf.ksiz
 have ssb:Ab' s≤1073741824:=by omega
 have ss2:Ab' s≤1099511627776:=by omega
 have sza:Ab' a0≤1073741824∧Ab' a1≤1073741824:=⟨nT hf.2.2.2.1.1 (by omega),nT hf.2.2.2.1.2 (by omega)⟩
 have ja:Ab' loa≤1000000∧Ab' ua≤1000000:=⟨by omega,by omega⟩
 have szb:Ab' m0≤1073741824∧Ab' m1≤1073741824:=⟨nT hf.2.2.2.2.1.1 (by omega),nT hf.2.2.2.2.1.2 (by omega)⟩
 have jb:Ab' lob≤1000000∧Ab' ub≤1000000:=⟨by omega,by omega⟩
 have szd:Ab' d0≤1073741824∧Ab' d1≤1073741824:=⟨nT hf.2.2.2.2.2.1 (by omega),nT hf.2.2.2.2.2.2 (by omega)⟩
 have jd:Ab' lod≤1000000∧Ab' ud≤1000000:=⟨by omega,by omega⟩
 clear za zb zd
 have lc:=Af' hc
 obtain ⟨Xa1,ca1,Xa2,ca2,Xa3,ca3,Xa4,ca4,ra,xa⟩:=id ha
 dsimp only at ra xa
 have la:=Af' ra
 replace ra:=hid ra
 replace xa:=hid xa
 obtain ⟨Xb1,cb1,Xb2,cb2,Xb3,cb3,Xb4,cb4,rb,xb⟩:=id hb
 dsimp only at rb xb
 have lb:=Af' rb
 replace rb:=hid rb
 replace xb:=hid xb
 obtain ⟨Xd1,cd1,Xd2,cd2,Xd3,cd3,Xd4,cd4,rdq,xd⟩:=id hd
 dsimp only at rdq xd
 have ld:=Af' rdq
 replace rdq:=hid rdq
 replace xd:=hid xd
 obtain ⟨Xk1,ck1,Xk2,ck2,Xk3,ck3,Xk4,ck4,rk,xk⟩:=id hk
 dsimp only at rk xk
 have lk:=Af' rk
 replace rk:=hid rk
 replace xk:=hid xk
 have zc0:w.cell? ⟨Bc,0,none⟩=some (.int .u8 ((s0:Nat):Int)):=cR _ _ 0 _ _ _ hc
 have zc1:w.cell? ⟨Bc,1,none⟩=some (.int .u8 ((t0:Nat):Int)):=cR _ _ 1 _ _ _ hc
 have zc2:w.cell? ⟨Bc,2,none⟩=some (.int .i32 M):=cR _ _ 2 _ _ _ hc
 have zc3:w.cell? ⟨Bc,3,none⟩=some (.int .u8 ((D:Nat):Int)):=cR _ _ 3 _ _ _ hc
 have zc4:w.cell? ⟨Bc,4,none⟩=some (.int .i32 N):=cR _ _ 4 _ _ _ hc
 have zc5:w.cell? ⟨Bc,5,none⟩=some (.int .u8 ((E:Nat):Int)):=cR _ _ 5 _ _ _ hc
 replace es:=hid es
 replace ela:=hid ela
 replace elb:=hid elb
 replace eld:=hid eld
 replace eha:=hid eha
 replace ehb:=hid ehb
 replace ehd:=hid ehd
 replace E0:=hid E0
 replace hks:=hid hks
 replace sza:=hid sza
 replace szb:=hid szb
 replace szd:=hid szd
 replace ja:=hid ja
 replace jb:=hid jb
 replace jd:=hid jd
 replace hs0:=hid hs0
 replace ss:=hid ss
 replace ssb:=hid ssb
 replace ss2:=hid ss2
 replace hf:=hid hf
 replace hT:=hid hT
 replace hPo:=hid hPo
 replace ha:=hid ha
 replace hb:=hid hb
 replace hd:=hid hd
 replace hk:=hid hk
 replace hc:=hid hc
 replace h1:=hid h1
 replace h2:=hid h2
 replace h3:=hid h3
 show Code.wp _ (Code.seq _ _) _ _ _
 refine wp_seq_k ?_
 intro G hG
 replace hG:=hid hG
 have HX:=hid (Cd' (w:=w) h1.out h2.out h3.out es.out)
 go_wp2_with fail
 refine (HX.out).mono ?_
 rintro e w1 ⟨v1,rfl,hv1,b1⟩
 obtain ⟨C1,j1,C2,j2,rfl,-,-⟩:=id hv1.opened
 replace hv1:=hid hv1
 replace b1:=hid b1
 clear HX
 clear zc0 zc1 zc2 zc3 zc4 zc5
 have HX:=hid (Cx' hv1.out ss2.out)
 go_wp2_with fail
 refine (HX.out).mono ?_
 rintro e w2 ⟨v2,rfl,hv2,b2⟩
 obtain ⟨C3,j3,C4,j4,C5,j5,C6,j6,rfl,-,-,-,-⟩:=id hv2.opened
 replace hv2:=hid hv2
 replace b2:=hid b2
 clear HX
 go_upto_region 18 with fail
 obtain ⟨w3,hw3⟩:=eX (w2.alloc (.cells #[.bool (decide (s.num<0)),.slice C3 (Vx.len s.num.natAbs) j3,.slice C4 (Vx.len (below s.den)) j4,.bool (decide (s.num<0)),.slice C5 (Vx.len s.num.natAbs) j5,.slice C6 (Vx.len (below s.den)) j6] 34))
 have b3:=hid (Ar hw3)
 have L3:=hid (At' hw3)
 rw [←hw3]
 clear hw3
 have y0_3:=hid (bS (bS b1.out b2.out) b3.out)
 obtain ⟨z_a_0,z_a_1,z_a_2,z_a_3,z_a_4,z_a_5⟩:=Af (Ac' ra.out y0_3.out)
 obtain ⟨z_b_0,z_b_1,z_b_2,z_b_3,z_b_4,z_b_5⟩:=Af (Ac' rb.out y0_3.out)
 obtain ⟨z_d_0,z_d_1,z_d_2,z_d_3,z_d_4,z_d_5⟩:=Af (Ac' rdq.out y0_3.out)
 obtain ⟨z_P_0,z_P_1,z_P_2,z_P_3,z_P_4,z_P_5⟩:=Af L3.out
 have va:=Af' (Ac' ra.out y0_3.out)
 have vb:=Af' (Ac' rb.out y0_3.out)
 have vd:=Af' (Ac' rdq.out y0_3.out)
 have vP:=Af' L3.out
 have vk:=Af' (Ac' rk.out y0_3.out)
 go_wp2_with fail
 refine wp_region_held_drew (S:=(fun w'=>(w'.cell? ⟨Ba,0,none⟩=w3.cell? ⟨Ba,0,none⟩∧w'.cell? ⟨Ba,1,none⟩=w3.cell? ⟨Ba,1,none⟩∧w'.cell? ⟨Ba,2,none⟩=w3.cell? ⟨Ba,2,none⟩∧w'.cell? ⟨Ba,3,none⟩=w3.cell? ⟨Ba,3,none⟩∧w'.cell? ⟨Ba,4,none⟩=w3.cell? ⟨Ba,4,none⟩∧w'.cell? ⟨Ba,5,none⟩=w3.cell? ⟨Ba,5,none⟩∧w'.cell? ⟨Bb,0,none⟩=w3.cell? ⟨Bb,0,none⟩∧w'.cell? ⟨Bb,1,none⟩=w3.cell? ⟨Bb,1,none⟩∧w'.cell? ⟨Bb,2,none⟩=w3.cell? ⟨Bb,2,none⟩∧w'.cell? ⟨Bb,3,none⟩=w3.cell? ⟨Bb,3,none⟩∧w'.cell? ⟨Bb,4,none⟩=w3.cell? ⟨Bb,4,none⟩∧w'.cell? ⟨Bb,5,none⟩=w3.cell? ⟨Bb,5,none⟩∧w'.cell? ⟨Bd,0,none⟩=w3.cell? ⟨Bd,0,none⟩∧w'.cell? ⟨Bd,1,none⟩=w3.cell? ⟨Bd,1,none⟩∧w'.cell? ⟨Bd,2,none⟩=w3.cell? ⟨Bd,2,none⟩∧w'.cell? ⟨Bd,3,none⟩=w3.cell? ⟨Bd,3,none⟩∧w'.cell? ⟨Bd,4,none⟩=w3.cell? ⟨Bd,4,none⟩∧w'.cell? ⟨Bd,5,none⟩=w3.cell? ⟨Bd,5,none⟩∧w'.cell? ⟨w2.heap.size,0,none⟩=w3.cell? ⟨w2.heap.size,0,none⟩∧w'.cell? ⟨w2.heap.size,1,none⟩=w3.cell? ⟨w2.heap.size,1,none⟩∧w'.cell? ⟨w2.heap.size,2,none⟩=w3.cell? ⟨w2.heap.size,2,none⟩∧w'.cell? ⟨w2.heap.size,3,none⟩=w3.cell? ⟨w2.heap.size,3,none⟩∧w'.cell? ⟨w2.heap.size,4,none⟩=w3.cell? ⟨w2.heap.size,4,none⟩∧w'.cell? ⟨w2.heap.size,5,none⟩=w3.cell? ⟨w2.heap.size,5,none⟩))) (by kernel_rfl) ?_ (fun hHeld=>?_)
 · (try dsimp only)
   exact ⟨rfl,rfl,rfl,rfl,rfl,rfl,rfl,rfl,rfl,rfl,rfl,rfl,rfl,rfl,rfl,rfl,rfl,rfl,rfl,rfl,rfl,rfl,rfl,rfl⟩
 obtain ⟨w4,hw4⟩:=eX w3.drew
 have b4:Hid (Below w3.heap.size w3 w4):=hid (by rw [hw4];exact ⟨rfl,rfl,rfl,nL _,fun _ _=>rfl⟩)
 rw [←hw4] at hHeld ⊢
 clear hw4
 have y0_4:=hid (bS y0_3.out b4.out)
 have lbW:w.heap.size≤w4.heap.size:=y0_4.out.size
 have lbS:w3.heap.size≤w4.heap.size:=b4.out.size
 have lc_k:Bk<w4.heap.size:=Af' (Ac' rk.out y0_4.out)
 refine tk (i:=0) (h:=?_)
 try simp only [Act.put,lt,ly,lu]
 refine tk (i:=1) (h:=?_)
 try simp only [Act.put,lt,ly,lu]
 refine tk (i:=3) (h:=?_)
 try simp only [Act.put,lt,ly,lu]
 refine tk (i:=4) (h:=?_)
 try simp only [Act.put,lt,ly,lu]
 refine tk (i:=6) (h:=?_)
 try simp only [Act.put,lt,ly,lu]
 refine tk (i:=7) (h:=?_)
 try simp only [Act.put,lt,ly,lu]
 have hSof:Hid (∀ u:World,Below w4.heap.size w4 u→(u.cell? ⟨Ba,0,none⟩=w3.cell? ⟨Ba,0,none⟩∧u.cell? ⟨Ba,1,none⟩=w3.cell? ⟨Ba,1,none⟩∧u.cell? ⟨Ba,2,none⟩=w3.cell? ⟨Ba,2,none⟩∧u.cell? ⟨Ba,3,none⟩=w3.cell? ⟨Ba,3,none⟩∧u.cell? ⟨Ba,4,none⟩=w3.cell? ⟨Ba,4,none⟩∧u.cell? ⟨Ba,5,none⟩=w3.cell? ⟨Ba,5,none⟩∧u.cell? ⟨Bb,0,none⟩=w3.cell? ⟨Bb,0,none⟩∧u.cell? ⟨Bb,1,none⟩=w3.cell? ⟨Bb,1,none⟩∧u.cell? ⟨Bb,2,none⟩=w3.cell? ⟨Bb,2,none⟩∧u.cell? ⟨Bb,3,none⟩=w3.cell? ⟨Bb,3,none⟩∧u.cell? ⟨Bb,4,none⟩=w3.cell? ⟨Bb,4,none⟩∧u.cell? ⟨Bb,5,none⟩=w3.cell? ⟨Bb,5,none⟩∧u.cell? ⟨Bd,0,none⟩=w3.cell? ⟨Bd,0,none⟩∧u.cell? ⟨Bd,1,none⟩=w3.cell? ⟨Bd,1,none⟩∧u.cell? ⟨Bd,2,none⟩=w3.cell? ⟨Bd,2,none⟩∧u.cell? ⟨Bd,3,none⟩=w3.cell? ⟨Bd,3,none⟩∧u.cell? ⟨Bd,4,none⟩=w3.cell? ⟨Bd,4,none⟩∧u.cell? ⟨Bd,5,none⟩=w3.cell? ⟨Bd,5,none⟩∧u.cell? ⟨w2.heap.size,0,none⟩=w3.cell? ⟨w2.heap.size,0,none⟩∧u.cell? ⟨w2.heap.size,1,none⟩=w3.cell? ⟨w2.heap.size,1,none⟩∧u.cell? ⟨w2.heap.size,2,none⟩=w3.cell? ⟨w2.heap.size,2,none⟩∧u.cell? ⟨w2.heap.size,3,none⟩=w3.cell? ⟨w2.heap.size,3,none⟩∧u.cell? ⟨w2.heap.size,4,none⟩=w3.cell? ⟨w2.heap.size,4,none⟩∧u.cell? ⟨w2.heap.size,5,none⟩=w3.cell? ⟨w2.heap.size,5,none⟩)):=hid (fun u hu=>by
   have k:=bS b4.out hu
   exact ⟨k.cell (p:=⟨Ba,0,none⟩) va,k.cell (p:=⟨Ba,1,none⟩) va,k.cell (p:=⟨Ba,2,none⟩) va,k.cell (p:=⟨Ba,3,none⟩) va,k.cell (p:=⟨Ba,4,none⟩) va,k.cell (p:=⟨Ba,5,none⟩) va,k.cell (p:=⟨Bb,0,none⟩) vb,k.cell (p:=⟨Bb,1,none⟩) vb,k.cell (p:=⟨Bb,2,none⟩) vb,k.cell (p:=⟨Bb,3,none⟩) vb,k.cell (p:=⟨Bb,4,none⟩) vb,k.cell (p:=⟨Bb,5,none⟩) vb,k.cell (p:=⟨Bd,0,none⟩) vd,k.cell (p:=⟨Bd,1,none⟩) vd,k.cell (p:=⟨Bd,2,none⟩) vd,k.cell (p:=⟨Bd,3,none⟩) vd,k.cell (p:=⟨Bd,4,none⟩) vd,k.cell (p:=⟨Bd,5,none⟩) vd,k.cell (p:=⟨w2.heap.size,0,none⟩) vP,k.cell (p:=⟨w2.heap.size,1,none⟩) vP,k.cell (p:=⟨w2.heap.size,2,none⟩) vP,k.cell (p:=⟨w2.heap.size,3,none⟩) vP,k.cell (p:=⟨w2.heap.size,4,none⟩) vP,k.cell (p:=⟨w2.heap.size,5,none⟩) vP⟩)
 clear hHeld
 refine Ce' (base:=2) (n:=8) (INV:=fun a0 n l a u=>∃ (c2 c5 c8 c9 d13:Bool) (ma mb md vt vu vo ve p13:Value) (b13:Nat),n=(!c2).toNat+(!c5).toNat+(!c8).toNat+4*(!c9).toNat+(!d13).toNat∧l=#[true,true,c2,true,true,c5,true,true,c8,c9,c9,c9,c9,d13,false,false]∧a={ a0 with tmps:=((((((((a0.tmps.setIfInBounds 139 ma).setIfInBounds 142 mb).setIfInBounds 145 md).setIfInBounds 146 vt).setIfInBounds 136 vu).setIfInBounds 147 vo).setIfInBounds 148 ve).setIfInBounds 24 p13) }∧((c2 || !c5) && (c2 || !c8) && (c5 || !c8) && (c2 || !c9) && (c5 || !c9) && (c8 || !c9))=true∧Below w4.heap.size w4 u∧(c2=true→Aj u ma loa ua)∧(c5=true→Aj u mb lob ub)∧(c8=true→Aj u md lod ud)∧(c9=true→Aj u vo k0 k1∧ve=Value.int .i64 0)∧BP d13 w4.heap.size u (.cells #[.bool false,.slice none 0 0,.slice none 0 0,.bool false,.slice none 0 0,.slice none 0 0] 34) p13 b13) ?_ ?_ ?_
 · exact ⟨false,false,false,false,false,y139,y142,y145,y146,y136,y147,y148,y24,0,rfl,rfl,(by kernel_rfl),rfl,Below.refl _ _,nofun,nofun,nofun,nofun,nofun⟩
 rotate_left
 · rintro n l a u ⟨c2,c5,c8,c9,d13,ma,mb,md,vt,vu,vo,ve,p13,b13,hn,rfl,rfl,hc,HB,k2,k5,k8,k9,r13⟩ ih
   refine BN' (fun i=>(i==2 && !c2) || (i==5 && (c2 && !c5)) || (i==8 && (c2 && c5 && !c8)) || (i==9 && (c2 && c5 && c8 && !c9)) || (i==13 && !d13)) ?_ ?_
   · clear ih HB r13 k9 k8 k5 k2
     cases c2 <;> cases c5 <;> cases c8 <;> cases c9 <;> cases d13 <;> first | exact absurd hn (Nat.succ_ne_zero n) | exact absurd hc Bool.false_ne_true | (clear hn hc;kernel_rfl)
   · intro i hp
     simp only [Bool.or_eq_true,Bool.and_eq_true,beq_iff_eq,Bool.not_eq_true'] at hp
     rcases hp with ((((⟨rfl,rfl⟩ | ⟨rfl,rfl,rfl⟩) | ⟨rfl,⟨rfl,rfl⟩,rfl⟩) | ⟨rfl,⟨⟨rfl,rfl⟩,rfl⟩,rfl⟩) | ⟨rfl,rfl⟩)
     · refine AllReadyH.cons (o:=?oq1) ?eq1 ?kq1 AllReadyH.nil
       case eq1=>simp only [lg,lz,ls] <;> rfl
       intro K hK
       go_simp
       go_at_call 19
       refine (EV ela.out eha.out (xa.out.keep (bS y0_3.out (bS b4.out HB))) (hv2.out.keep (bS b3.out (bS b4.out HB))) sza.out.1 sza.out.2 ssb.out ssb.out).mono ?_
       rintro e u9 ⟨ma,rfl,kk,b9⟩
       refine hK.out _ _ (hSof.out u9 (bS HB b9)) (fun hHeld=>?_)
       clear hK
       try simp only [Act.put,lt,ly,lu]
       exact ih _ (by omega) _ _ _ ⟨true,c5,c8,c9,d13,ma,mb,md,vt,vu,vo,ve,p13,b13,(by simp only [Bool.not_true,Bool.not_false,Bool.toNat_true,Bool.toNat_false] at hn ⊢;omega),rfl,(by kernel_rfl),(by cases c5 <;> cases c8 <;> cases c9 <;> first | rfl | exact hc | cases hc),bS HB b9,fun _=>kk,fun h=>(k5 h).keep b9,fun h=>(k8 h).keep b9,fun h=>⟨(k9 h).1.keep b9,(k9 h).2⟩,r13.keep b9⟩
     · refine AllReadyH.cons (o:=?oq2) ?eq2 ?kq2 AllReadyH.nil
       case eq2=>simp only [lg,lz,ls] <;> rfl
       intro K hK
       go_simp
       go_at_call 19
       refine (EV elb.out ehb.out (xb.out.keep (bS y0_3.out (bS b4.out HB))) (hv2.out.keep (bS b3.out (bS b4.out HB))) szb.out.1 szb.out.2 ssb.out ssb.out).mono ?_
       rintro e u9 ⟨mb,rfl,kk,b9⟩
       refine hK.out _ _ (hSof.out u9 (bS HB b9)) (fun hHeld=>?_)
       clear hK
       try simp only [Act.put,lt,ly,lu]
       exact ih _ (by omega) _ _ _ ⟨true,true,c8,c9,d13,ma,mb,md,vt,vu,vo,ve,p13,b13,(by simp only [Bool.not_true,Bool.not_false,Bool.toNat_true,Bool.toNat_false] at hn ⊢;omega),rfl,(by kernel_rfl),(by cases c8 <;> cases c9 <;> first | rfl | exact hc | cases hc),bS HB b9,fun h=>(k2 h).keep b9,fun _=>kk,fun h=>(k8 h).keep b9,fun h=>⟨(k9 h).1.keep b9,(k9 h).2⟩,r13.keep b9⟩
     · refine AllReadyH.cons (o:=?oq3) ?eq3 ?kq3 AllReadyH.nil
       case eq3=>simp only [lg,lz,ls] <;> rfl
       intro K hK
       go_simp
       go_at_call 19
       refine (EV eld.out ehd.out (xd.out.keep (bS y0_3.out (bS b4.out HB))) (hv2.out.keep (bS b3.out (bS b4.out HB))) szd.out.1 szd.out.2 ssb.out ssb.out).mono ?_
       rintro e u9 ⟨md,rfl,kk,b9⟩
       refine hK.out _ _ (hSof.out u9 (bS HB b9)) (fun hHeld=>?_)
       clear hK
       try simp only [Act.put,lt,ly,lu]
       exact ih _ (by omega) _ _ _ ⟨true,true,true,c9,d13,ma,mb,md,vt,vu,vo,ve,p13,b13,(by simp only [Bool.not_true,Bool.not_false,Bool.toNat_true,Bool.toNat_false] at hn ⊢;omega),rfl,(by kernel_rfl),(by cases c9 <;> first | rfl | exact hc | cases hc),bS HB b9,fun h=>(k2 h).keep b9,fun h=>(k5 h).keep b9,fun _=>kk,fun h=>⟨(k9 h).1.keep b9,(k9 h).2⟩,r13.keep b9⟩
     · refine AllReadyH.cons (o:=?oq4) ?eq4 ?kq4 AllReadyH.nil
       case eq4=>simp only [lg,lz,ls] <;> rfl
       intro K hK
       go_simp
       go_at_call 5
       refine (BH (k2 rfl) (k5 rfl) (k8 rfl) ja.out jb.out jd.out E0.out.2 E0.out.1.1 E0.out.1.2).mono ?_
       rintro e u9 ⟨vo,rfl,kk,b9⟩
       refine hK.out _ _ (hSof.out u9 (bS HB b9)) (fun hHeld=>?_)
       clear hK
       try simp only [Act.put,lt,ly,lu]
       obtain ⟨m,rfl⟩:∃ m,n=m+3:=⟨n - 3,by simp only [Bool.not_true,Bool.not_false,Bool.toNat_true,Bool.toNat_false] at hn;omega⟩
       cases d13 <;> (
         refine tk (i:=10) (h:=?_);try simp only [Act.put,lt,ly,lu]
         refine tk (i:=11) (h:=?_);try simp only [Act.put,lt,ly,lu]
         refine tk (i:=12) (h:=?_);try simp only [Act.put,lt,ly,lu]
         exact ih _ (by omega) _ _ _ ⟨true,true,true,true,_,ma,mb,md,.tuple #[vo,.int .i64 0],.tuple #[vo,.int .i64 0],vo,.int .i64 0,p13,b13,(by simp only [Bool.not_true,Bool.not_false,Bool.toNat_true,Bool.toNat_false] at hn ⊢;omega),rfl,(by kernel_rfl),(by first | rfl | exact hc),bS HB b9,fun h=>(k2 h).keep b9,fun h=>(k5 h).keep b9,fun h=>(k8 h).keep b9,fun _=>⟨kk,rfl⟩,r13.keep b9⟩)
     · refine AllReadyH.cons (o:=?oq5) ?eq5 ?kq5 AllReadyH.nil
       case eq5=>simp only [lg,lz,ls] <;> rfl
       intro K hK
       go_simp
       have b9:=An u (.cells #[.bool false,.slice none 0 0,.slice none 0 0,.bool false,.slice none 0 0,.slice none 0 0] 34)
       refine hK.out _ _ (hSof.out _ (bS HB b9)) (fun _=>?_)
       try simp only [Act.put,lt,ly,lu]
       exact ih _ (by omega) _ _ _ ⟨c2,c5,c8,c9,true,ma,mb,md,vt,vu,vo,ve,.pointer (some ⟨u.heap.size,0,none⟩),u.heap.size,(by simp only [Bool.not_true,Bool.not_false,Bool.toNat_true,Bool.toNat_false] at hn ⊢;omega),rfl,(by kernel_rfl),hc,bS HB b9,fun h=>(k2 h).keep b9,fun h=>(k5 h).keep b9,fun h=>(k8 h).keep b9,fun h=>⟨(k9 h).1.keep b9,(k9 h).2⟩,.new _ HB.size⟩
 rintro l a w5 ⟨c2,c5,c8,c9,d13,ma,mb,md,vt,vu,vo,ve,p13,b13,hn,rfl,rfl,hc,HB,k2,k5,k8,k9,r13⟩
 obtain ⟨rfl,rfl,rfl,rfl,rfl⟩:c2=true∧c5=true∧c8=true∧c9=true∧d13=true:=by
   revert hn
   clear HB hc r13 k9 k8 k5 k2
   cases c2 <;> cases c5 <;> cases c8 <;> cases c9 <;> cases d13 <;> simp
 clear hn hc
 replace k2:=k2 rfl
 replace k5:=k5 rfl
 replace k8:=k8 rfl
 replace k9:=k9 rfl
 obtain ⟨rfl,rr13⟩:=r13 rfl
 clear r13
 try simp only [Act.put,lt,ly,lu]
 have b5:=hid HB
 clear HB
 have hHeld:=hSof.out _ b5.out
 have L5_13:=hid rr13.2
 replace rr13:=rr13.1
 obtain ⟨k9,rfl⟩:=k9
 obtain ⟨C7,j7,C8,j8,C9,j9,C10,j10,rfl,-,-,-,-⟩:=id k9.opened
 replace k9:=hid k9
 clear k2 k5 k8
 refine rd (i:=14) (h:=fun K hK=>?_)
 have DBq7:=Ac' L5_13.out (Below.refl _ w5)
 have q0:w5.cell? ⟨b13,0,none⟩=some (.bool false):=cR _ _ _ _ _ _ DBq7
 have F0:w5.frozen? ⟨b13,0,none⟩=false:=fR w5 (b13) 0 _ _ DBq7
 have q1:w5.cell? ⟨b13,1,none⟩=some (.slice none 0 0):=cR _ _ _ _ _ _ DBq7
 have F1:w5.frozen? ⟨b13,1,none⟩=false:=fR w5 (b13) 1 _ _ DBq7
 have q2:w5.cell? ⟨b13,2,none⟩=some (.slice none 0 0):=cR _ _ _ _ _ _ DBq7
 have F2:w5.frozen? ⟨b13,2,none⟩=false:=fR w5 (b13) 2 _ _ DBq7
 have q3:w5.cell? ⟨b13,3,none⟩=some (.bool false):=cR _ _ _ _ _ _ DBq7
 have F3:w5.frozen? ⟨b13,3,none⟩=false:=fR w5 (b13) 3 _ _ DBq7
 have q4:w5.cell? ⟨b13,4,none⟩=some (.slice none 0 0):=cR _ _ _ _ _ _ DBq7
 have F4:w5.frozen? ⟨b13,4,none⟩=false:=fR w5 (b13) 4 _ _ DBq7
 have q5:w5.cell? ⟨b13,5,none⟩=some (.slice none 0 0):=cR _ _ _ _ _ _ DBq7
 have F5:w5.frozen? ⟨b13,5,none⟩=false:=fR w5 (b13) 5 _ _ DBq7
 have y0_5:=hid (bS y0_4.out b5.out)
 have y3_5:=hid (bS b4.out b5.out)
 have hS:=y3_5.out
 have hz6:w3.heap.size≤w5.heap.size:=hS.size
 go_simp
 clear q0 F0 q1 F1 q2 F2 q3 F3 q4 F4 q5 F5
 have FV:=hid k9.out
 have FB:=hid y0_5.out
 obtain ⟨w6,hw⟩:=eX (((((((w5.setCell ⟨b13,0,none⟩ (.bool (decide (k0.num<0)))).setCell ⟨b13,1,none⟩ (.slice C7 (Vx.len k0.num.natAbs) j7)).setCell ⟨b13,2,none⟩ (.slice C8 (Vx.len (below k0.den)) j8)).setCell ⟨b13,3,none⟩ (.bool (decide (k1.num<0)))).setCell ⟨b13,4,none⟩ (.slice C9 (Vx.len k1.num.natAbs) j9)).setCell ⟨b13,5,none⟩ (.slice C10 (Vx.len (below k1.den)) j10)))
 have hse6:w6.heap.size=w5.heap.size:=by rw [hw];simp
 obtain ⟨E,OT,LV,BL⟩:=Av DBq7 hw
 rw [←hw]
 clear hw
 have L6:=hid E
 have FB6:=hid (BL _ _ (by omega) FB.out)
 have HS6:=hid (BL _ _ (show w3.heap.size≤b13 by omega) hS)
 have LKk6:=hid (OT _ _ (by omega) (Ac' rk.out y0_5.out))
 have KVo6:=hid (LV.box k9.out)
 have KVk6:=hid (LV.box (xk.out.keep y0_5.out))
 have s0_6:w6.cell? ⟨Ba,0,none⟩=w3.cell? ⟨Ba,0,none⟩:=(Aa' OT (by omega) (ltl va hz6)).trans (hS.cell (p:=⟨Ba,0,none⟩) va)
 have s1_6:w6.cell? ⟨Ba,1,none⟩=w3.cell? ⟨Ba,1,none⟩:=(Aa' OT (by omega) (ltl va hz6)).trans (hS.cell (p:=⟨Ba,1,none⟩) va)
 have s2_6:w6.cell? ⟨Ba,2,none⟩=w3.cell? ⟨Ba,2,none⟩:=(Aa' OT (by omega) (ltl va hz6)).trans (hS.cell (p:=⟨Ba,2,none⟩) va)
 have s3_6:w6.cell? ⟨Ba,3,none⟩=w3.cell? ⟨Ba,3,none⟩:=(Aa' OT (by omega) (ltl va hz6)).trans (hS.cell (p:=⟨Ba,3,none⟩) va)
 have s4_6:w6.cell? ⟨Ba,4,none⟩=w3.cell? ⟨Ba,4,none⟩:=(Aa' OT (by omega) (ltl va hz6)).trans (hS.cell (p:=⟨Ba,4,none⟩) va)
 have s5_6:w6.cell? ⟨Ba,5,none⟩=w3.cell? ⟨Ba,5,none⟩:=(Aa' OT (by omega) (ltl va hz6)).trans (hS.cell (p:=⟨Ba,5,none⟩) va)
 have s6_6:w6.cell? ⟨Bb,0,none⟩=w3.cell? ⟨Bb,0,none⟩:=(Aa' OT (by omega) (ltl vb hz6)).trans (hS.cell (p:=⟨Bb,0,none⟩) vb)
 have s7_6:w6.cell? ⟨Bb,1,none⟩=w3.cell? ⟨Bb,1,none⟩:=(Aa' OT (by omega) (ltl vb hz6)).trans (hS.cell (p:=⟨Bb,1,none⟩) vb)
 have s8_6:w6.cell? ⟨Bb,2,none⟩=w3.cell? ⟨Bb,2,none⟩:=(Aa' OT (by omega) (ltl vb hz6)).trans (hS.cell (p:=⟨Bb,2,none⟩) vb)
 have s9_6:w6.cell? ⟨Bb,3,none⟩=w3.cell? ⟨Bb,3,none⟩:=(Aa' OT (by omega) (ltl vb hz6)).trans (hS.cell (p:=⟨Bb,3,none⟩) vb)
 have s10_6:w6.cell? ⟨Bb,4,none⟩=w3.cell? ⟨Bb,4,none⟩:=(Aa' OT (by omega) (ltl vb hz6)).trans (hS.cell (p:=⟨Bb,4,none⟩) vb)
 have s11_6:w6.cell? ⟨Bb,5,none⟩=w3.cell? ⟨Bb,5,none⟩:=(Aa' OT (by omega) (ltl vb hz6)).trans (hS.cell (p:=⟨Bb,5,none⟩) vb)
 have s12_6:w6.cell? ⟨Bd,0,none⟩=w3.cell? ⟨Bd,0,none⟩:=(Aa' OT (by omega) (ltl vd hz6)).trans (hS.cell (p:=⟨Bd,0,none⟩) vd)
 have s13_6:w6.cell? ⟨Bd,1,none⟩=w3.cell? ⟨Bd,1,none⟩:=(Aa' OT (by omega) (ltl vd hz6)).trans (hS.cell (p:=⟨Bd,1,none⟩) vd)
 have s14_6:w6.cell? ⟨Bd,2,none⟩=w3.cell? ⟨Bd,2,none⟩:=(Aa' OT (by omega) (ltl vd hz6)).trans (hS.cell (p:=⟨Bd,2,none⟩) vd)
 have s15_6:w6.cell? ⟨Bd,3,none⟩=w3.cell? ⟨Bd,3,none⟩:=(Aa' OT (by omega) (ltl vd hz6)).trans (hS.cell (p:=⟨Bd,3,none⟩) vd)
 have s16_6:w6.cell? ⟨Bd,4,none⟩=w3.cell? ⟨Bd,4,none⟩:=(Aa' OT (by omega) (ltl vd hz6)).trans (hS.cell (p:=⟨Bd,4,none⟩) vd)
 have s17_6:w6.cell? ⟨Bd,5,none⟩=w3.cell? ⟨Bd,5,none⟩:=(Aa' OT (by omega) (ltl vd hz6)).trans (hS.cell (p:=⟨Bd,5,none⟩) vd)
 have s18_6:w6.cell? ⟨w2.heap.size,0,none⟩=w3.cell? ⟨w2.heap.size,0,none⟩:=(Aa' OT (by omega) (ltl vP hz6)).trans (hS.cell (p:=⟨w2.heap.size,0,none⟩) vP)
 have s19_6:w6.cell? ⟨w2.heap.size,1,none⟩=w3.cell? ⟨w2.heap.size,1,none⟩:=(Aa' OT (by omega) (ltl vP hz6)).trans (hS.cell (p:=⟨w2.heap.size,1,none⟩) vP)
 have s20_6:w6.cell? ⟨w2.heap.size,2,none⟩=w3.cell? ⟨w2.heap.size,2,none⟩:=(Aa' OT (by omega) (ltl vP hz6)).trans (hS.cell (p:=⟨w2.heap.size,2,none⟩) vP)
 have s21_6:w6.cell? ⟨w2.heap.size,3,none⟩=w3.cell? ⟨w2.heap.size,3,none⟩:=(Aa' OT (by omega) (ltl vP hz6)).trans (hS.cell (p:=⟨w2.heap.size,3,none⟩) vP)
 have s22_6:w6.cell? ⟨w2.heap.size,4,none⟩=w3.cell? ⟨w2.heap.size,4,none⟩:=(Aa' OT (by omega) (ltl vP hz6)).trans (hS.cell (p:=⟨w2.heap.size,4,none⟩) vP)
 have s23_6:w6.cell? ⟨w2.heap.size,5,none⟩=w3.cell? ⟨w2.heap.size,5,none⟩:=(Aa' OT (by omega) (ltl vP hz6)).trans (hS.cell (p:=⟨w2.heap.size,5,none⟩) vP)
 refine hK.out _ _ ?_ (fun hHeld2=>?_)
 · (try dsimp only)
   exact ⟨s0_6,s1_6,s2_6,s3_6,s4_6,s5_6,s6_6,s7_6,s8_6,s9_6,s10_6,s11_6,s12_6,s13_6,s14_6,s15_6,s16_6,s17_6,s18_6,s19_6,s20_6,s21_6,s22_6,s23_6⟩
 clear hK K hHeld hS OT LV BL FV FB E DBq7 s0_6 s1_6 s2_6 s3_6 s4_6 s5_6 s6_6 s7_6 s8_6 s9_6 s10_6 s11_6 s12_6 s13_6 s14_6 s15_6 s16_6 s17_6 s18_6 s19_6 s20_6 s21_6 s22_6 s23_6
 try simp only [Act.put,lt,ly,lu]
 have hHeld:=hHeld2
 clear hHeld2
 refine tk (i:=15) (h:=?_)
 try simp only [Act.put,lt,ly,lu]
 refine wpAnyH_done (by kernel_rfl) ?_ _
 clear hHeld
 obtain ⟨z_o_0,z_o_1,z_o_2,z_o_3,z_o_4,z_o_5⟩:=Af L6.out
 obtain ⟨z_k_0,z_k_1,z_k_2,z_k_3,z_k_4,z_k_5⟩:=Af LKk6.out
 have HX:=hid (Cg KVo6.out KVk6.out (nT hks.out.1 (by omega)) (nT hks.out.2 (by omega)))
 go_wp2_with fail
 refine (HX.out).mono ?_
 rintro e w7 ⟨rfl,b7⟩
 replace b7:=hid b7
 clear HX
 have FB:=hid (bS FB6.out b7.out)
 go_wp2_with fail
 refine hG.out _ _ ?_
 exact DV (ha.out.keep FB.out) (hb.out.keep FB.out) (hd.out.keep FB.out) (hk.out.keep FB.out) hf.out (Ar' hT.out FB.out) (fun w' h=>hPo.out w' (Ae' FB.out h))
end Go.Proofs.YtcicfnlljdnagaaGreatDoor.Rf
