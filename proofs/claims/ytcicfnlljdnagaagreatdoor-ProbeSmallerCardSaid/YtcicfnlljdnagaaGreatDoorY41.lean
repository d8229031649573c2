/-
  Contracts of the functions that the law calls, for every input (Rka Rkb).
-/
import Derived.Test.YtcicfnlljdnagaaGreatDoorY00
import Derived.Test.YtcicfnlljdnagaaGreatDoorY40
import Derived.Test.YtcicfnlljdnagaaGreatDoorY19
set_option linter.all false
set_option maxRecDepth 100000
set_option maxHeartbeats 40000000
namespace Go.Proofs.YtcicfnlljdnagaaGreatDoor.Rf
open Lib (hid)
open Go.RowKit
open Rx
open Vx (Ab' Ah Ah')
open List renaming getElem?_toArray → lg, getElem?_cons_zero → lz, getElem?_cons_succ → ls, setIfInBounds_toArray → lt, set_cons_zero → ly, set_cons_succ → lu
theorem GB {w:World} {b:Nat} {p q z:Rat} {T:TypeId} {s1 s2 s3:Bool} {A1 A2 A3 A4 A5 A6:Option Addr} {n1 c1 n2 c2 n3 c3 n4 c4 n5 c5 n6 c6:Nat} (h:w.heap[b]?=some (.cells #[.bool s1,.slice A1 n1 c1,.slice A2 n2 c2,.bool s2,.slice A3 n3 c3,.slice A4 n4 c4,.bool s3,.slice A5 n5 c5,.slice A6 n6 c6] T (0,0)))
   (hp:Ad' w (.agg #[.bool s1,.slice A1 n1 c1,.slice A2 n2 c2]) p) (hq:Ad' w (.agg #[.bool s2,.slice A3 n3 c3,.slice A4 n4 c4]) q) (hz:Ad' w (.agg #[.bool s3,.slice A5 n5 c5,.slice A6 n6 c6]) z):AX w b 0 [p,q,z]:=by
 obtain ⟨r0,r1,r2,r3,r4,r5,r6,r7,r8⟩:=CJ' h
 intro i x hi
 match i with
 | 0=>obtain rfl:=Option.some.inj hi;exact ⟨_,_,_,_,_,_,_,r0,r1,r2,hp⟩
 | 1=>obtain rfl:=Option.some.inj hi;exact ⟨_,_,_,_,_,_,_,r3,r4,r5,hq⟩
 | 2=>obtain rfl:=Option.some.inj hi;exact ⟨_,_,_,_,_,_,_,r6,r7,r8,hz⟩
 | i+3=>simp at hi
theorem Dn {a b r:Rat} (ea:mkRat 1 2=a) (eb:mkRat 3 4=b) (er:0=r):Bz' a b r∧(Ab' a≤9∧Ab' b≤9)∧Ab' r≤9:=by
 subst ea eb er
 unfold Bz'
 decide +kernel
theorem He' {x z s r:Rat} (ex:((16:Int):Rat)=x) (ez:((9:Int):Rat)=z) (es:((1:Int):Rat) / ((4:Int):Rat)=s) (er:0=r):0≤s∧s<1∧Ab' z≤9∧Ab' x≤9∧Ab' 0≤9∧Ab' s≤9∧¬ (x - 0 - r≤0∧0≤x - 0+r) ∧
   (if (1 - s)^2≤leastOf ((z - 0 - r) / (x - 0 - r)) [(z - 0 - r) / (x - 0+r),(z - 0+r) / (x - 0 - r),(z - 0+r) / (x - 0+r)] then 1 else if greatestOf ((z - 0 - r) / (x - 0 - r)) [(z - 0 - r) / (x - 0+r),(z - 0+r) / (x - 0 - r),(z - 0+r) / (x - 0+r)]<(1 - s)^2 then 2 else 3)=(1:Int):=by
 subst ex ez es er
 decide +kernel
theorem FU' {w:World} {P:Nat} {a b r:Rat} {A1 B1 A2 B2 A3 B3:Option Addr} {c1 d1 c2 d2 c3 d3:Nat}  {y0 y2 y3 y4 y5 y6 y7 y8 y9 y10 y11 y12 y13 y14 y15 y16 y17 y18 y19 y20 y21 y22 y23 y24 y25 y26 y27 y28 y29 y30 y31 y32 y33 y34 y35 y36 y37 y38 y39 y40 y41 y42 y43 y44 y45 y46 y47 y48 y49 y50 y51 y52 y53 y54 y55 y56 y57 y58 y59 y60 y61 y62 y63 y64 y65 y66 y67 y68 y69 y70 y71 y72 y73 y74 y75 y76 y77 y78 y79 y80 y81 y82 y83 y84 y85 y86 y87 y88 y89 y90 y91 y92 y93 y94 y95 y96 y97 y98 y99 y100 y101 y102 y103 y104 y105 y106 y107 y108 y109 y110 y111 y112 y113:Value} {Po:Ending→World→Prop} (hP:w.heap[P]?=some (.cells #[.bool (decide (a.num<0)),.slice A1 (Vx.len a.num.natAbs) c1,.slice B1 (Vx.len (below a.den)) d1,.bool (decide (b.num<0)),.slice A2 (Vx.len b.num.natAbs) c2,.slice B2 (Vx.len (below b.den)) d2,.bool (decide (r.num<0)),.slice A3 (Vx.len r.num.natAbs) c3,.slice B3 (Vx.len (below r.den)) d3] 71 (0,0))) (hp:AQ' w (.agg #[.bool (decide (a.num<0)),.slice A1 (Vx.len a.num.natAbs) c1,.slice B1 (Vx.len (below a.den)) d1,.bool (decide (b.num<0)),.slice A2 (Vx.len b.num.natAbs) c2,.slice B2 (Vx.len (below b.den)) d2,.bool (decide (r.num<0)),.slice A3 (Vx.len r.num.natAbs) c3,.slice B3 (Vx.len (below r.den)) d3]) a b r) (ea:mkRat 1 2=a) (eb:mkRat 3 4=b) (er:0=r)  (hPo:∀ w',Below w.heap.size w w'→Po (.returned (.bool true)) w') :
   (codeAt 6 Tryz.f7).wp Tryz.prog (bodyPost Tryz.prog Tryz.f7 Po) { tmps:=#[y0,.pointer (some ⟨P,0,none⟩),y2,y3,y4,y5,y6,y7,y8,y9,y10,y11,y12,y13,y14,y15,y16,y17,y18,y19,y20,y21,y22,y23,y24,y25,y26,y27,y28,y29,y30,y31,y32,y33,y34,y35,y36,y37,y38,y39,y40,y41,y42,y43,y44,y45,y46,y47,y48,y49,y50,y51,y52,y53,y54,y55,y56,y57,y58,y59,y60,y61,y62,y63,y64,y65,y66,y67,y68,y69,y70,y71,y72,y73,y74,y75,y76,y77,y78,y79,y80,y81,y82,y83,y84,y85,y86,y87,y88,y89,y90,y91,y92,y93,y94,y95,y96,y97,y98,y99,y100,y101,y102,y103,y104,y105,y106,y107,y108,y109,y110,y111,y112,y113],defers:=[] } w:=by
 obtain ⟨x,ex⟩:=eY (((16:Int):Rat):Rat)
 obtain ⟨y,ey⟩:=eY (((12:Int):Rat):Rat)
 obtain ⟨z,ez⟩:=eY (((9:Int):Rat):Rat)
 obtain ⟨s,es⟩:=eY (((1:Int):Rat) / ((4:Int):Rat):Rat)
 have KP:=hid (Dn ea eb er)
 have KT:=hid (He' ex ez es er)
 replace ex:=hid ex
 replace ey:=hid ey
 replace ez:=hid ez
 replace es:=hid es
 replace ea:=hid ea
 replace eb:=hid eb
 replace er:=hid er
 replace hP:=hid hP
 replace hp:=hid hp
 replace hPo:=hid hPo
 show Code.wp _ (Code.seq _ _) _ _ _
 have HX:=hid (BY' (w:=w) es.out (by omega) (by omega) (by omega) (by omega))
 go_wp2_with fail
 refine (HX.out).mono ?_
 rintro e w1 ⟨v1,rfl,hv1,b1⟩
 obtain ⟨C1,j1,C2,j2,rfl,-,-⟩:=id hv1.opened
 replace hv1:=hid hv1
 replace b1:=hid b1
 clear HX
 go_upto_region 8 with fail
 obtain ⟨w2,hw2⟩:=eX (w1.alloc (.cells #[.bool (decide (s.num<0)),.slice C1 (Vx.len s.num.natAbs) j1,.slice C2 (Vx.len (below s.den)) j2] 32))
 have b2:=hid (Ar hw2)
 have L2:=hid (At' hw2)
 rw [←hw2]
 clear hw2
 have y0_2:=hid (bS b1.out b2.out)
 have hg:w2.heap[P]?=some (.cells #[.bool (decide (a.num<0)),.slice A1 (Vx.len a.num.natAbs) c1,.slice B1 (Vx.len (below a.den)) d1,.bool (decide (b.num<0)),.slice A2 (Vx.len b.num.natAbs) c2,.slice B2 (Vx.len (below b.den)) d2,.bool (decide (r.num<0)),.slice A3 (Vx.len r.num.natAbs) c3,.slice B3 (Vx.len (below r.den)) d3] 71 (0,0)):=(y0_2.out.block _ (gE.1 hP.out).1).trans hP.out
 have z_p_0:w2.cell? ⟨P,0,none⟩=some (.bool (decide (a.num<0))):=cR _ _ _ _ _ _ hg
 have z_p_1:w2.cell? ⟨P,1,none⟩=some (.slice A1 (Vx.len a.num.natAbs) c1):=cR _ _ _ _ _ _ hg
 have z_p_2:w2.cell? ⟨P,2,none⟩=some (.slice B1 (Vx.len (below a.den)) d1):=cR _ _ _ _ _ _ hg
 have z_p_3:w2.cell? ⟨P,3,none⟩=some (.bool (decide (b.num<0))):=cR _ _ _ _ _ _ hg
 have z_p_4:w2.cell? ⟨P,4,none⟩=some (.slice A2 (Vx.len b.num.natAbs) c2):=cR _ _ _ _ _ _ hg
 have z_p_5:w2.cell? ⟨P,5,none⟩=some (.slice B2 (Vx.len (below b.den)) d2):=cR _ _ _ _ _ _ hg
 have z_p_6:w2.cell? ⟨P,6,none⟩=some (.bool (decide (r.num<0))):=cR _ _ _ _ _ _ hg
 have z_p_7:w2.cell? ⟨P,7,none⟩=some (.slice A3 (Vx.len r.num.natAbs) c3):=cR _ _ _ _ _ _ hg
 have z_p_8:w2.cell? ⟨P,8,none⟩=some (.slice B3 (Vx.len (below r.den)) d3):=cR _ _ _ _ _ _ hg
 clear hg
 obtain ⟨z_s_0,z_s_1,z_s_2⟩:=Ae L2.out
 have hPl:=Af' (Ac' hP.out y0_2.out)
 have hsl:=Af' L2.out
 go_wp2_with fail
 refine wp_region_held_drew (S:=(fun w'=>(w'.cell? ⟨P,0,none⟩=w2.cell? ⟨P,0,none⟩∧w'.cell? ⟨P,1,none⟩=w2.cell? ⟨P,1,none⟩∧w'.cell? ⟨P,2,none⟩=w2.cell? ⟨P,2,none⟩∧w'.cell? ⟨P,3,none⟩=w2.cell? ⟨P,3,none⟩∧w'.cell? ⟨P,4,none⟩=w2.cell? ⟨P,4,none⟩∧w'.cell? ⟨P,5,none⟩=w2.cell? ⟨P,5,none⟩∧w'.cell? ⟨P,6,none⟩=w2.cell? ⟨P,6,none⟩∧w'.cell? ⟨P,7,none⟩=w2.cell? ⟨P,7,none⟩∧w'.cell? ⟨P,8,none⟩=w2.cell? ⟨P,8,none⟩∧w'.cell? ⟨w1.heap.size,0,none⟩=w2.cell? ⟨w1.heap.size,0,none⟩∧w'.cell? ⟨w1.heap.size,1,none⟩=w2.cell? ⟨w1.heap.size,1,none⟩∧w'.cell? ⟨w1.heap.size,2,none⟩=w2.cell? ⟨w1.heap.size,2,none⟩))) (by kernel_rfl) ?_ (fun hHeld=>?_)
 · (try dsimp only)
   exact ⟨rfl,rfl,rfl,rfl,rfl,rfl,rfl,rfl,rfl,rfl,rfl,rfl⟩
 obtain ⟨w3,hw3⟩:=eX w2.drew
 have b3:Hid (Below w2.heap.size w2 w3):=hid (by rw [hw3];exact ⟨rfl,rfl,rfl,nL _,fun _ _=>rfl⟩)
 rw [←hw3] at hHeld ⊢
 clear hw3
 have y0_3:=hid (bS y0_2.out b3.out)
 have lbW:w.heap.size≤w3.heap.size:=y0_3.out.size
 have lbS:w2.heap.size≤w3.heap.size:=b3.out.size
 refine tk (i:=0) (h:=?_)
 try simp only [Act.put,lt,ly,lu]
 refine tk (i:=5) (h:=?_)
 try simp only [Act.put,lt,ly,lu]
 refine tk (i:=6) (h:=?_)
 try simp only [Act.put,lt,ly,lu]
 refine rd (i:=1) (h:=fun K hK=>?_)
 go_simp;go_at_call 25
 refine (Ay' (w:=w3) ex.out (by omega) (by omega)).mono ?_
 rintro e w4 ⟨v4,rfl,hv4,b4⟩
 obtain ⟨C3,j3,C4,j4,rfl,-,-⟩:=id hv4.opened
 replace hv4:=hid hv4
 replace b4:=hid b4
 have y2_4:=hid (bS b3.out b4.out)
 have hS:=y2_4.out
 clear hHeld
 refine hK.out _ _ ?_ (fun hHeld=>?_)
 · (try dsimp only)
   exact ⟨hS.cell (p:=⟨P,0,none⟩) hPl,hS.cell (p:=⟨P,1,none⟩) hPl,hS.cell (p:=⟨P,2,none⟩) hPl,hS.cell (p:=⟨P,3,none⟩) hPl,hS.cell (p:=⟨P,4,none⟩) hPl,hS.cell (p:=⟨P,5,none⟩) hPl,hS.cell (p:=⟨P,6,none⟩) hPl,hS.cell (p:=⟨P,7,none⟩) hPl,hS.cell (p:=⟨P,8,none⟩) hPl,hS.cell (p:=⟨w1.heap.size,0,none⟩) hsl,hS.cell (p:=⟨w1.heap.size,1,none⟩) hsl,hS.cell (p:=⟨w1.heap.size,2,none⟩) hsl⟩
 clear hK K hS;try simp only [Act.put,lt,ly,lu]
 refine rd (i:=2) (h:=fun K hK=>?_)
 go_simp;go_at_call 25
 refine (Ay' (w:=w4) ey.out (by omega) (by omega)).mono ?_
 rintro e w5 ⟨v5,rfl,hv5,b5⟩
 obtain ⟨C5,j5,C6,j6,rfl,-,-⟩:=id hv5.opened
 replace hv5:=hid hv5
 replace b5:=hid b5
 have y2_5:=hid (bS y2_4.out b5.out)
 have hS:=y2_5.out
 clear hHeld
 refine hK.out _ _ ?_ (fun hHeld=>?_)
 · (try dsimp only)
   exact ⟨hS.cell (p:=⟨P,0,none⟩) hPl,hS.cell (p:=⟨P,1,none⟩) hPl,hS.cell (p:=⟨P,2,none⟩) hPl,hS.cell (p:=⟨P,3,none⟩) hPl,hS.cell (p:=⟨P,4,none⟩) hPl,hS.cell (p:=⟨P,5,none⟩) hPl,hS.cell (p:=⟨P,6,none⟩) hPl,hS.cell (p:=⟨P,7,none⟩) hPl,hS.cell (p:=⟨P,8,none⟩) hPl,hS.cell (p:=⟨w1.heap.size,0,none⟩) hsl,hS.cell (p:=⟨w1.heap.size,1,none⟩) hsl,hS.cell (p:=⟨w1.heap.size,2,none⟩) hsl⟩
 clear hK K hS;try simp only [Act.put,lt,ly,lu]
 refine rd (i:=3) (h:=fun K hK=>?_)
 go_simp;go_at_call 25
 refine (Ay' (w:=w5) ez.out (by omega) (by omega)).mono ?_
 rintro e w6 ⟨v6,rfl,hv6,b6⟩
 obtain ⟨C7,j7,C8,j8,rfl,-,-⟩:=id hv6.opened
 replace hv6:=hid hv6
 replace b6:=hid b6
 have y2_6:=hid (bS y2_5.out b6.out)
 have hS:=y2_6.out
 clear hHeld
 refine hK.out _ _ ?_ (fun hHeld=>?_)
 · (try dsimp only)
   exact ⟨hS.cell (p:=⟨P,0,none⟩) hPl,hS.cell (p:=⟨P,1,none⟩) hPl,hS.cell (p:=⟨P,2,none⟩) hPl,hS.cell (p:=⟨P,3,none⟩) hPl,hS.cell (p:=⟨P,4,none⟩) hPl,hS.cell (p:=⟨P,5,none⟩) hPl,hS.cell (p:=⟨P,6,none⟩) hPl,hS.cell (p:=⟨P,7,none⟩) hPl,hS.cell (p:=⟨P,8,none⟩) hPl,hS.cell (p:=⟨w1.heap.size,0,none⟩) hsl,hS.cell (p:=⟨w1.heap.size,1,none⟩) hsl,hS.cell (p:=⟨w1.heap.size,2,none⟩) hsl⟩
 clear hK K hS;try simp only [Act.put,lt,ly,lu]
 refine rd (i:=4) (h:=fun K hK=>?_)
 have y3_6:=hid (bS (bS b4.out b5.out) b6.out)
 have lb_sl:w3.heap.size≤w6.heap.size:=y3_6.out.size
 go_simp
 obtain ⟨w7,hw7⟩:=eX (w6.alloc (.cells #[.bool (decide (x.num<0)),.slice C3 (Vx.len x.num.natAbs) j3,.slice C4 (Vx.len (below x.den)) j4,.bool (decide (y.num<0)),.slice C5 (Vx.len y.num.natAbs) j5,.slice C6 (Vx.len (below y.den)) j6,.bool (decide (z.num<0)),.slice C7 (Vx.len z.num.natAbs) j7,.slice C8 (Vx.len (below z.den)) j8] 32))
 have b7:=hid (Ar hw7)
 have L7:=hid (At' hw7)
 rw [←hw7]
 clear hw7
 have y2_7:=hid (bS y2_6.out b7.out)
 have hS:=y2_7.out
 clear hHeld
 refine hK.out _ _ ?_ (fun hHeld=>?_)
 · (try dsimp only)
   exact ⟨hS.cell (p:=⟨P,0,none⟩) hPl,hS.cell (p:=⟨P,1,none⟩) hPl,hS.cell (p:=⟨P,2,none⟩) hPl,hS.cell (p:=⟨P,3,none⟩) hPl,hS.cell (p:=⟨P,4,none⟩) hPl,hS.cell (p:=⟨P,5,none⟩) hPl,hS.cell (p:=⟨P,6,none⟩) hPl,hS.cell (p:=⟨P,7,none⟩) hPl,hS.cell (p:=⟨P,8,none⟩) hPl,hS.cell (p:=⟨w1.heap.size,0,none⟩) hsl,hS.cell (p:=⟨w1.heap.size,1,none⟩) hsl,hS.cell (p:=⟨w1.heap.size,2,none⟩) hsl⟩
 clear hK K hS;try simp only [Act.put,lt,ly,lu]
 refine rd (i:=7) (h:=fun K hK=>?_)
 have y0_7:=hid (bS (bS (bS (bS y0_3.out b4.out) b5.out) b6.out) b7.out)
 have y1_7:=hid (bS (bS (bS (bS (bS b2.out b3.out) b4.out) b5.out) b6.out) b7.out)
 have y4_7:=hid (bS (bS b5.out b6.out) b7.out)
 have y5_7:=hid (bS b6.out b7.out)
 go_simp;go_at_call 38
 refine (FT (n:=2) (n1:=3) (k:=1) (hp.out.keep y0_7.out) (Bg w7) (hv1.out.keep y1_7.out) (GB L7.out (hv4.out.keep y4_7.out) (hv5.out.keep y5_7.out) (hv6.out.keep b7.out)) rfl rfl rfl (by omega) (by omega) KP.out.1 KT.out.1 KT.out.2.1 (nT KT.out.2.2.1 (by omega)) (nT KT.out.2.2.2.1 (by omega)) (nT KT.out.2.2.2.2.1 (by omega)) (nT KT.out.2.2.2.2.2.1 (by omega)) (nT KP.out.2.2 (by omega)) ⟨nT KP.out.2.1.1 (by omega),nT KP.out.2.1.2 (by omega)⟩ KT.out.2.2.2.2.2.2.1 rfl rfl KT.out.2.2.2.2.2.2.2).mono ?_
 rintro e w8 ⟨rfl,b8⟩
 replace b8:=hid b8
 have y2_8:=hid (bS y2_7.out b8.out)
 have hS:=y2_8.out
 clear hHeld
 refine hK.out _ _ ?_ (fun hHeld=>?_)
 · (try dsimp only)
   exact ⟨hS.cell (p:=⟨P,0,none⟩) hPl,hS.cell (p:=⟨P,1,none⟩) hPl,hS.cell (p:=⟨P,2,none⟩) hPl,hS.cell (p:=⟨P,3,none⟩) hPl,hS.cell (p:=⟨P,4,none⟩) hPl,hS.cell (p:=⟨P,5,none⟩) hPl,hS.cell (p:=⟨P,6,none⟩) hPl,hS.cell (p:=⟨P,7,none⟩) hPl,hS.cell (p:=⟨P,8,none⟩) hPl,hS.cell (p:=⟨w1.heap.size,0,none⟩) hsl,hS.cell (p:=⟨w1.heap.size,1,none⟩) hsl,hS.cell (p:=⟨w1.heap.size,2,none⟩) hsl⟩
 clear hK K hS;try simp only [Act.put,lt,ly,lu]
 refine tk (i:=8) (h:=?_)
 try simp only [Act.put,lt,ly,lu]
 refine tk (i:=9) (h:=?_)
 try simp only [Act.put,lt,ly,lu]
 refine tk (i:=10) (h:=?_)
 try simp only [Act.put,lt,ly,lu]
 refine tk (i:=11) (h:=?_)
 try simp only [Act.put,lt,ly,lu]
 refine tk (i:=12) (h:=?_)
 try simp only [Act.put,lt,ly,lu]
 refine wpAnyH_done (by kernel_rfl) ?_ _
 clear hHeld
 have y0_8:=hid (bS y0_7.out b8.out)
 have FB:=hid y0_8.out
 go_wp2_with fail
 exact hPo.out _ FB.out
theorem kq1 {x:Rat} (e:(6:Rat)=x):A8' x=[54]∧Ab' x≤9:=by subst e;decide +kernel
theorem kq2 {x:Rat} (e:mkRat 15 2=x):A8' x=[55,46,53]∧Ab' x≤9:=by subst e;decide +kernel
theorem kq3 {x:Rat} (e:mkRat 20 3=x):A8' x=[50,48,47,51]∧Ab' x≤9:=by subst e;decide +kernel
theorem kq4 {x:Rat} (e:(8:Rat)=x):A8' x=[56]∧Ab' x≤9:=by subst e;decide +kernel
theorem BA' {w:World} {P:Nat} {a b r:Rat} {A1 B1 A2 B2 A3 B3:Option Addr} {c1 d1 c2 d2 c3 d3:Nat} {x y z v:Rat} {g bq:Nat} {A4 B4 A5 B5 A6 B6 A7 B7:Option Addr} {c4 d4 c5 d5 c6 d6 c7 d7:Nat} {y0 y2 y9 y10 y11 y12 y13 y14 y15 y16 y17 y18 y19 y20 y21 y22 y23 y24 y25 y26 y27 y28 y29 y30 y31 y32 y33 y34 y35 y36 y37 y38 y39 y40 y41 y42 y43 y44 y45 y46 y47 y48 y49 y50 y51 y52 y53 y54 y55 y56 y57 y58 y59 y60 y61 y62 y63 y64 y65 y66 y67 y68 y69 y70 y71 y72 y73 y74 y75 y76 y77 y78 y79 y80 y81 y82 y83 y84 y85 y86 y87 y88 y89 y90 y91 y92 y93 y94 y95 y96 y97 y98 y99 y100 y101 y102 y103 y104 y105 y106 y107 y108 y109 y110 y111 y112 y113:Value} {Po:Ending→World→Prop} (hP:w.heap[P]?=some (.cells #[.bool (decide (a.num<0)),.slice A1 (Vx.len a.num.natAbs) c1,.slice B1 (Vx.len (below a.den)) d1,.bool (decide (b.num<0)),.slice A2 (Vx.len b.num.natAbs) c2,.slice B2 (Vx.len (below b.den)) d2,.bool (decide (r.num<0)),.slice A3 (Vx.len r.num.natAbs) c3,.slice B3 (Vx.len (below r.den)) d3] 71 (0,0))) (hp:AQ' w (.agg #[.bool (decide (a.num<0)),.slice A1 (Vx.len a.num.natAbs) c1,.slice B1 (Vx.len (below a.den)) d1,.bool (decide (b.num<0)),.slice A2 (Vx.len b.num.natAbs) c2,.slice B2 (Vx.len (below b.den)) d2,.bool (decide (r.num<0)),.slice A3 (Vx.len r.num.natAbs) c3,.slice B3 (Vx.len (below r.den)) d3]) a b r) (ea:mkRat 1 2=a) (eb:mkRat 3 4=b) (er:0=r) (hf:w.cell? ⟨g,6,none⟩=some (.bool (decide (x.num<0)))∧w.cell? ⟨g,7,none⟩=some (.slice A4 (Vx.len x.num.natAbs) c4)∧w.cell? ⟨g,8,none⟩=some (.slice B4 (Vx.len (below x.den)) d4)∧w.cell? ⟨g,9,none⟩=some (.bool (decide (y.num<0)))∧w.cell? ⟨g,10,none⟩=some (.slice A5 (Vx.len y.num.natAbs) c5)∧w.cell? ⟨g,11,none⟩=some (.slice B5 (Vx.len (below y.den)) d5)) (hfb:Aj w (.agg #[.bool (decide (x.num<0)),.slice A4 (Vx.len x.num.natAbs) c4,.slice B4 (Vx.len (below x.den)) d4,.bool (decide (y.num<0)),.slice A5 (Vx.len y.num.natAbs) c5,.slice B5 (Vx.len (below y.den)) d5]) x y) (hq:w.heap[bq]?=some (.cells #[.bool (decide (z.num<0)),.slice A6 (Vx.len z.num.natAbs) c6,.slice B6 (Vx.len (below z.den)) d6,.bool (decide (v.num<0)),.slice A7 (Vx.len v.num.natAbs) c7,.slice B7 (Vx.len (below v.den)) d7] 34 (0,0))) (hqb:Aj w (.agg #[.bool (decide (z.num<0)),.slice A6 (Vx.len z.num.natAbs) c6,.slice B6 (Vx.len (below z.den)) d6,.bool (decide (v.num<0)),.slice A7 (Vx.len v.num.natAbs) c7,.slice B7 (Vx.len (below v.den)) d7]) z v) (ex:(6:Rat)=x) (ey:mkRat 15 2=y) (ez:mkRat 20 3=z) (ev:(8:Rat)=v) (hT:TabAt 0 Lib.deBruijn64tab w) (hPo:∀ w',Below w.heap.size w w'→Po (.returned (.bool true)) w') :
   (codeAt 5 Tryz.f7).wp Tryz.prog (bodyPost Tryz.prog Tryz.f7 Po) { tmps:=#[y0,.pointer (some ⟨P,0,none⟩),y2,.slice (some ⟨g,0,none⟩) 2 2,.int .i64 0,.int .i64 3,.int .i64 0,.pointer (some ⟨bq,0,none⟩),.int .i64 0,y9,y10,y11,y12,y13,y14,y15,y16,y17,y18,y19,y20,y21,y22,y23,y24,y25,y26,y27,y28,y29,y30,y31,y32,y33,y34,y35,y36,y37,y38,y39,y40,y41,y42,y43,y44,y45,y46,y47,y48,y49,y50,y51,y52,y53,y54,y55,y56,y57,y58,y59,y60,y61,y62,y63,y64,y65,y66,y67,y68,y69,y70,y71,y72,y73,y74,y75,y76,y77,y78,y79,y80,y81,y82,y83,y84,y85,y86,y87,y88,y89,y90,y91,y92,y93,y94,y95,y96,y97,y98,y99,y100,y101,y102,y103,y104,y105,y106,y107,y108,y109,y110,y111,y112,y113],defers:=[] } w:=by
 have k1:=hid (kq1 ex)
 have k2:=hid (kq2 ey)
 have k3:=hid (kq3 ez)
 have k4:=hid (kq4 ev)
 obtain ⟨f0,f1,f2,f3,f4,f5⟩:=hf
 have hgl:=bL _ _ f0
 replace ex:=hid ex
 replace ey:=hid ey
 replace ez:=hid ez
 replace ev:=hid ev
 replace ea:=hid ea
 replace eb:=hid eb
 replace er:=hid er
 replace hP:=hid hP
 replace hp:=hid hp
 replace hPo:=hid hPo
 replace hT:=hid hT
 replace hfb:=hid hfb
 replace hqb:=hid hqb
 replace hq:=hid hq
 show Code.wp _ (Code.seq _ _) _ _ _
 refine wp_seq_k ?_
 intro G hG
 replace hG:=hid hG
 have HX:=hid (Bm hfb.out (nT k1.out.2 (by omega)))
 go_wp2_with fail
 refine (HX.out).mono ?_
 rintro e w1 ⟨v1,rfl,hv1,b1⟩
 obtain ⟨C1,j1,C2,j2,rfl,-,-⟩:=id hv1.opened
 replace hv1:=hid hv1
 replace b1:=hid b1
 clear HX
 have HX:=hid (Ck hv1.out k1.out.1 (nT k1.out.2 (by omega)) (Ar' hT.out b1.out))
 go_wp2_with fail
 refine (HX.out).mono ?_
 rintro e w2 ⟨rfl,b2⟩
 replace b2:=hid b2
 clear HX
 have y0_2:=hid (bS b1.out b2.out)
 have F0:w2.cell? ⟨g,6,none⟩=some (.bool (decide (x.num<0))):=(y0_2.out.cell (p:=⟨g,6,none⟩) hgl).trans f0
 have F1:w2.cell? ⟨g,7,none⟩=some (.slice A4 (Vx.len x.num.natAbs) c4):=(y0_2.out.cell (p:=⟨g,7,none⟩) hgl).trans f1
 have F2:w2.cell? ⟨g,8,none⟩=some (.slice B4 (Vx.len (below x.den)) d4):=(y0_2.out.cell (p:=⟨g,8,none⟩) hgl).trans f2
 have F3:w2.cell? ⟨g,9,none⟩=some (.bool (decide (y.num<0))):=(y0_2.out.cell (p:=⟨g,9,none⟩) hgl).trans f3
 have F4:w2.cell? ⟨g,10,none⟩=some (.slice A5 (Vx.len y.num.natAbs) c5):=(y0_2.out.cell (p:=⟨g,10,none⟩) hgl).trans f4
 have F5:w2.cell? ⟨g,11,none⟩=some (.slice B5 (Vx.len (below y.den)) d5):=(y0_2.out.cell (p:=⟨g,11,none⟩) hgl).trans f5
 have HX:=hid (BS (hfb.out.keep y0_2.out) (nT k2.out.2 (by omega)))
 go_wp2_with fail
 refine (HX.out).mono ?_
 rintro e w3 ⟨v3,rfl,hv3,b3⟩
 obtain ⟨C3,j3,C4,j4,rfl,-,-⟩:=id hv3.opened
 replace hv3:=hid hv3
 replace b3:=hid b3
 clear HX
 clear F0 F1 F2 F3 F4 F5
 have y0_3:=hid (bS y0_2.out b3.out)
 have HX:=hid (Ck hv3.out k2.out.1 (nT k2.out.2 (by omega)) (Ar' hT.out y0_3.out))
 go_wp2_with fail
 refine (HX.out).mono ?_
 rintro e w4 ⟨rfl,b4⟩
 replace b4:=hid b4
 clear HX
 have y0_4:=hid (bS y0_3.out b4.out)
 obtain ⟨z_q_0,z_q_1,z_q_2,z_q_3,z_q_4,z_q_5⟩:=Af (Ac' hq.out y0_4.out)
 have HX:=hid (Bm (hqb.out.keep y0_4.out) (nT k3.out.2 (by omega)))
 go_wp2_with fail
 refine (HX.out).mono ?_
 rintro e w5 ⟨v5,rfl,hv5,b5⟩
 obtain ⟨C5,j5,C6,j6,rfl,-,-⟩:=id hv5.opened
 replace hv5:=hid hv5
 replace b5:=hid b5
 clear HX
 clear z_q_0 z_q_1 z_q_2 z_q_3 z_q_4 z_q_5
 have y0_5:=hid (bS y0_4.out b5.out)
 have HX:=hid (Ck hv5.out k3.out.1 (nT k3.out.2 (by omega)) (Ar' hT.out y0_5.out))
 go_wp2_with fail
 refine (HX.out).mono ?_
 rintro e w6 ⟨rfl,b6⟩
 replace b6:=hid b6
 clear HX
 have y0_6:=hid (bS y0_5.out b6.out)
 obtain ⟨z_q_0,z_q_1,z_q_2,z_q_3,z_q_4,z_q_5⟩:=Af (Ac' hq.out y0_6.out)
 have HX:=hid (BS (hqb.out.keep y0_6.out) (nT k4.out.2 (by omega)))
 go_wp2_with fail
 refine (HX.out).mono ?_
 rintro e w7 ⟨v7,rfl,hv7,b7⟩
 obtain ⟨C7,j7,C8,j8,rfl,-,-⟩:=id hv7.opened
 replace hv7:=hid hv7
 replace b7:=hid b7
 clear HX
 clear z_q_0 z_q_1 z_q_2 z_q_3 z_q_4 z_q_5
 have y0_7:=hid (bS y0_6.out b7.out)
 have HX:=hid (Ck hv7.out k4.out.1 (nT k4.out.2 (by omega)) (Ar' hT.out y0_7.out))
 go_wp2_with fail
 refine (HX.out).mono ?_
 rintro e w8 ⟨rfl,b8⟩
 replace b8:=hid b8
 clear HX
 have y0_8:=hid (bS y0_7.out b8.out)
 have FB:=hid y0_8.out
 go_wp2_with fail
 refine hG.out _ _ ?_
 exact FU' (Ac' hP.out y0_8.out) (hp.out.keep y0_8.out) ea.out eb.out er.out (fun w' h=>hPo.out w' (Ae' FB.out h))
end Go.Proofs.YtcicfnlljdnagaaGreatDoor.Rf
