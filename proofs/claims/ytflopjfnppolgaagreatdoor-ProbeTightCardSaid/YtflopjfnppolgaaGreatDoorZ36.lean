/-
  Contracts of the functions that the law calls, for every input (Qh Qe Qf).
-/
import Derived.Test.YtflopjfnppolgaaGreatDoorZ00
import Derived.Test.YtflopjfnppolgaaGreatDoorZ35
import Derived.Test.YtflopjfnppolgaaGreatDoorZ33
set_option linter.all false
set_option maxRecDepth 100000
set_option maxHeartbeats 40000000
namespace Go.Proofs.YtflopjfnppolgaaGreatDoor.Rf
open Lib (hid)
open Go.RowKit
open Rx
open Vx (Aa' Ai Ai')
open List renaming getElem?_toArray → lg, getElem?_cons_zero → lz, getElem?_cons_succ → ls, setIfInBounds_toArray → lt, set_cons_zero → ly, set_cons_succ → lu
theorem FD' {w:World} {v:Value} {a b r:Rat} (hp:AA' w v a b r) (sa:Aa' a≤16777216) :
   Calls Tryz.prog 67 #[v] w (Az' w (1 - a)):=by
 obtain ⟨o,eo⟩:=eY (((1:Int):Rat):Rat)
 obtain ⟨s,es⟩:=eY (o - a:Rat)
 have hs:s=1 - a:=by rw [←es,←eo];rfl
 have ko:Aa' o≤536870912:=by rw [←eo];decide
 have ka:Aa' a≤536870912:=by omega
 rw [←hs]
 clear hs
 replace eo:=hid eo
 replace es:=hid es
 replace ko:=hid ko
 replace ka:=hid ka
 replace sa:=hid sa
 obtain ⟨C1,j1,C2,j2,C3,j3,C4,j4,C5,j5,C6,j6,rfl,hpg,hpe⟩:=id hp.opened
 replace hp:=hid hp
 replace hpg:=hid hpg
 replace hpe:=hid hpe
 obtain ⟨w1,hw1⟩:=eX (((w.alloc (.cells #[.bool (decide (a.num<0)),.slice C1 (Vx.len a.num.natAbs) j1,.slice C2 (Vx.len (below a.den)) j2,.bool (decide (b.num<0)),.slice C3 (Vx.len b.num.natAbs) j3,.slice C4 (Vx.len (below b.den)) j4,.bool (decide (r.num<0)),.slice C5 (Vx.len r.num.natAbs) j5,.slice C6 (Vx.len (below r.den)) j6] 39)).alloc (.cells #[.bool false,.slice none 0 0,.slice none 0 0] 35)))
 obtain ⟨b1,g1,g2⟩:=AL' hw1
 replace g1:=hid g1
 replace g2:=hid g2
 replace b1:=hid b1
 go_enter Tryz.func67,Tryz.ntmps67
 go_upto_region 1 with fail
 rw [←hw1]
 clear hw1
 go_wp2_with fail
 have HSZa:Hid ((w.heap.size+1)≤w1.heap.size):=hid (by have:=Al' g2.out;omega)
 have hg:w1.heap[w.heap.size]?=some (.cells #[.bool (decide (a.num<0)),.slice C1 (Vx.len a.num.natAbs) j1,.slice C2 (Vx.len (below a.den)) j2,.bool (decide (b.num<0)),.slice C3 (Vx.len b.num.natAbs) j3,.slice C4 (Vx.len (below b.den)) j4,.bool (decide (r.num<0)),.slice C5 (Vx.len r.num.natAbs) j5,.slice C6 (Vx.len (below r.den)) j6] 39 (0,0)):=((Below.refl _ w1).block _ (gE.1 g1.out).1).trans g1.out
 have z_p_0:w1.cell? ⟨w.heap.size,0,none⟩=some (.bool (decide (a.num<0))):=cR _ _ _ _ _ _ hg
 have z_p_1:w1.cell? ⟨w.heap.size,1,none⟩=some (.slice C1 (Vx.len a.num.natAbs) j1):=cR _ _ _ _ _ _ hg
 have z_p_2:w1.cell? ⟨w.heap.size,2,none⟩=some (.slice C2 (Vx.len (below a.den)) j2):=cR _ _ _ _ _ _ hg
 have z_p_3:w1.cell? ⟨w.heap.size,3,none⟩=some (.bool (decide (b.num<0))):=cR _ _ _ _ _ _ hg
 have z_p_4:w1.cell? ⟨w.heap.size,4,none⟩=some (.slice C3 (Vx.len b.num.natAbs) j3):=cR _ _ _ _ _ _ hg
 have z_p_5:w1.cell? ⟨w.heap.size,5,none⟩=some (.slice C4 (Vx.len (below b.den)) j4):=cR _ _ _ _ _ _ hg
 have z_p_6:w1.cell? ⟨w.heap.size,6,none⟩=some (.bool (decide (r.num<0))):=cR _ _ _ _ _ _ hg
 have z_p_7:w1.cell? ⟨w.heap.size,7,none⟩=some (.slice C5 (Vx.len r.num.natAbs) j5):=cR _ _ _ _ _ _ hg
 have z_p_8:w1.cell? ⟨w.heap.size,8,none⟩=some (.slice C6 (Vx.len (below r.den)) j6):=cR _ _ _ _ _ _ hg
 clear hg
 have hlta_p:w.heap.size<(w.heap.size+1):=by omega
 have H0:=Ah'.start w1 (w.heap.size+1)
 have H0':=H0
 unfold Ah' at H0'
 refine wp_region_held_drew (S:=(fun w'=>(∀ b o,b<(w.heap.size+1)→w'.cell? ⟨b,o,none⟩=w1.cell? ⟨b,o,none⟩)∧Below ((w.heap.size+1)) w1 w'∧An' w1 w')) (by kernel_rfl) ?_ (fun hHeld=>?_)
 · (try dsimp only)
   exact H0'
 obtain ⟨w2,hw2⟩:=eX w1.drew
 have b2:Hid (Below w1.heap.size w1 w2):=by rw [hw2];exact ⟨rfl,rfl,rfl,nL _,fun _ _=>rfl⟩
 rw [←hw2] at hHeld H0 ⊢
 clear hw2 H0'
 refine tk (i:=1) (h:=?_)
 try simp only [Act.put,lt,ly,lu]
 refine tk (i:=2) (h:=?_)
 try simp only [Act.put,lt,ly,lu]
 refine rdz (i:=0) (h:=fun K hK=>?_);go_simp;go_at_call 18
 refine (AE' (w:=w2) eo.out (by omega) (by omega)).mono ?_
 rintro e w3 ⟨v3,rfl,hv3,b3⟩
 obtain ⟨C7,j7,C8,j8,rfl,-,-⟩:=id hv3.opened
 replace hv3:=hid hv3
 replace b3:=hid b3
 have hk3:=Av' H0 HSZa b3.out;clear hHeld H0
 refine hK.out _ _ (by (try dsimp only);with_reducible exact hun hk3) (fun hHeld=>?_)
 clear hK K;try simp only [Act.put,lt,ly,lu]
 have y0_3:=hid (bS (bS b1.out b2.out) b3.out)
 refine rdz (i:=3) (h:=fun K hK=>?_);go_simp;go_at_call 30
 refine (Bm' (hpg.out.keep y0_3.out) (nT sa.out (by omega))).mono ?_
 rintro e w4 ⟨v4,rfl,hv4,b4⟩
 obtain ⟨C9,j9,C10,j10,rfl,-,-⟩:=id hv4.opened
 replace hv4:=hid hv4
 replace b4:=hid b4
 have hk4:=Av' hk3 HSZa b4.out;clear hHeld hk3
 refine hK.out _ _ (by (try dsimp only);with_reducible exact hun hk4) (fun hHeld=>?_)
 clear hK K;try simp only [Act.put,lt,ly,lu]
 refine rdz (i:=4) (h:=fun K hK=>?_);go_simp;go_at_call 21
 refine (Cw' es.out (hv3.out.keep b4.out) hv4.out ko.out ka.out).mono ?_
 rintro e w5 ⟨v5,rfl,hv5,b5⟩
 obtain ⟨C11,j11,C12,j12,rfl,-,-⟩:=id hv5.opened
 replace hv5:=hid hv5
 replace b5:=hid b5
 have hk5:=Av' hk4 HSZa b5.out;clear hHeld hk4
 refine hK.out _ _ (by (try dsimp only);with_reducible exact hun hk5) (fun hHeld=>?_)
 clear hK K;try simp only [Act.put,lt,ly,lu]
 have y1_5:=hid (bS (bS (bS b2.out b3.out) b4.out) b5.out)
 have Dq6:=(Ab' g2.out y1_5.out)
 refine rdz (i:=5) (h:=fun K hK=>?_)
 have q0:w5.cell? ⟨w.heap.size+1,0,none⟩=some (.bool false):=cR _ _ _ _ _ _ Dq6
 have F0:w5.frozen? ⟨w.heap.size+1,0,none⟩=false:=fR w5 (w.heap.size+1) 0 _ _ Dq6
 have q1:w5.cell? ⟨w.heap.size+1,1,none⟩=some (.slice none 0 0):=cR _ _ _ _ _ _ Dq6
 have F1:w5.frozen? ⟨w.heap.size+1,1,none⟩=false:=fR w5 (w.heap.size+1) 1 _ _ Dq6
 have q2:w5.cell? ⟨w.heap.size+1,2,none⟩=some (.slice none 0 0):=cR _ _ _ _ _ _ Dq6
 have F2:w5.frozen? ⟨w.heap.size+1,2,none⟩=false:=fR w5 (w.heap.size+1) 2 _ _ Dq6
 replace Dq6:=hid Dq6
 go_simp
 clear q0 F0 q1 F1 q2 F2
 have y0_5:=hid (bS (bS y0_3.out b4.out) b5.out)
 have FB:=hid y0_5.out
 have FV:=hid hv5.out
 obtain ⟨ue,hw⟩:=eX ((((w5.setCell ⟨w.heap.size+1,0,none⟩ (.bool (decide (s.num<0)))).setCell ⟨w.heap.size+1,1,none⟩ (.slice C11 (Vx.len s.num.natAbs) j11)).setCell ⟨w.heap.size+1,2,none⟩ (.slice C12 (Vx.len (below s.den)) j12)))
 obtain ⟨E_ue,OT,LV,BL⟩:=AE Dq6.out hw
 rw [←hw]
 clear hw
 replace E_ue:=hid E_ue
 have FE:=hid (LV.num FV.out)
 replace FB:=hid (BL _ _ (by omega) FB.out)
 have HKE:=hk5
 refine hK.out _ _ ?_ (fun hHeld2=>?_)
 · (try dsimp only)
   exact ⟨fun b o hb=>(Au (BL (w.heap.size+1) _ (by omega) hk5.2.1)) b o hb,BL (w.heap.size+1) _ (by omega) hk5.2.1,A7' hk5.2.2 LV⟩
 clear hK K hHeld OT LV BL HKE
 try simp only [Act.put,lt,ly,lu]
 have hHeld:=hHeld2
 clear hHeld2
 refine wpAnyH_done (by kernel_rfl) ?_ _
 clear hHeld
 obtain ⟨r0,r1,r2⟩:=Ad' E_ue.out
 go_wp2_with fail
 refine bP (v:=.agg #[.bool (decide (s.num<0)),.slice C11 (Vx.len s.num.natAbs) j11,.slice C12 (Vx.len (below s.den)) j12]) ?_ rfl ⟨_,rfl,FE.out,FB.out⟩
 simp [results,Tryz.results67,go_sem,r0,r1,r2]
def BG (y x g:Rat):Rat:=y*(1 - g)+g*x
theorem Ej {w:World} {vy vx vg:Value} {y x g:Rat} (hy:Ac' w vy y) (hx:Ac' w vx x) (hg:Ac' w vg g) (sy:Aa' y≤16777216) (sx:Aa' x≤16777216) (sg:Aa' g≤16777216) :
   Calls Tryz.prog 106 #[vy,vx,vg] w (Az' w (BG y x g)):=by
 obtain ⟨o,eo⟩:=eY (((1:Int):Rat):Rat)
 obtain ⟨d,ed⟩:=eY (o - g:Rat)
 obtain ⟨m,em⟩:=eY (y*d:Rat)
 obtain ⟨n,en⟩:=eY (g*x:Rat)
 obtain ⟨s,es⟩:=eY (m+n:Rat)
 have hs:s=BG y x g:=by unfold BG;rw [←es,←em,←en,←ed,←eo];rfl
 have so:Aa' o≤3:=by rw [←eo];decide
 have sd:Aa' d≤Aa' o+Aa' g+1:=by rw [←ed];exact Vx.AC' o g
 have sm:Aa' m≤Aa' y+Aa' d+1:=by rw [←em];have:=Vx.B0' y d;omega
 have sn:Aa' n≤Aa' g+Aa' x+1:=by rw [←en];have:=Vx.B0' g x;omega
 have ko:Aa' o≤536870912:=by omega
 have ky:Aa' y≤536870912:=by omega
 have kx:Aa' x≤536870912:=by omega
 have kg:Aa' g≤536870912:=by omega
 have kd:Aa' d≤536870912:=by omega
 have km:Aa' m≤536870912:=by omega
 have kn:Aa' n≤536870912:=by omega
 rw [←hs]
 clear so sd sm sn hs
 replace eo:=hid eo
 replace ed:=hid ed
 replace em:=hid em
 replace en:=hid en
 replace es:=hid es
 replace ko:=hid ko
 replace ky:=hid ky
 replace kx:=hid kx
 replace kg:=hid kg
 replace kd:=hid kd
 replace km:=hid km
 replace kn:=hid kn
 replace sy:=hid sy
 replace sx:=hid sx
 replace sg:=hid sg
 obtain ⟨C1,j1,C2,j2,rfl,-,-⟩:=id hy.opened
 replace hy:=hid hy
 obtain ⟨C3,j3,C4,j4,rfl,-,-⟩:=id hx.opened
 replace hx:=hid hx
 obtain ⟨C5,j5,C6,j6,rfl,-,-⟩:=id hg.opened
 replace hg:=hid hg
 obtain ⟨w1,hw1⟩:=eX (((((w.alloc (.cells #[.bool (decide (y.num<0)),.slice C1 (Vx.len y.num.natAbs) j1,.slice C2 (Vx.len (below y.den)) j2] 35)).alloc (.cells #[.bool (decide (x.num<0)),.slice C3 (Vx.len x.num.natAbs) j3,.slice C4 (Vx.len (below x.den)) j4] 35)).alloc (.cells #[.bool (decide (g.num<0)),.slice C5 (Vx.len g.num.natAbs) j5,.slice C6 (Vx.len (below g.den)) j6] 35)).alloc (.cells #[.bool false,.slice none 0 0,.slice none 0 0] 35)))
 obtain ⟨b1,g1,g2,g3,g4⟩:=DX' w (.cells #[.bool (decide (y.num<0)),.slice C1 (Vx.len y.num.natAbs) j1,.slice C2 (Vx.len (below y.den)) j2] 35) (.cells #[.bool (decide (x.num<0)),.slice C3 (Vx.len x.num.natAbs) j3,.slice C4 (Vx.len (below x.den)) j4] 35) (.cells #[.bool (decide (g.num<0)),.slice C5 (Vx.len g.num.natAbs) j5,.slice C6 (Vx.len (below g.den)) j6] 35) (.cells #[.bool false,.slice none 0 0,.slice none 0 0] 35)
 rw [←hw1] at b1 g1 g2 g3 g4
 replace g1:=hid g1
 replace g2:=hid g2
 replace g3:=hid g3
 replace g4:=hid g4
 replace b1:=hid b1
 go_enter Tryz.func106,Tryz.ntmps106
 go_upto_region 1 with fail
 rw [←hw1]
 clear hw1
 go_wp2_with fail
 have HSZa:Hid ((w.heap.size+3)≤w1.heap.size):=hid (by have:=Al' g4.out;omega)
 obtain ⟨z_y_0,z_y_1,z_y_2⟩:=Ad' g1.out
 have hlta_y:w.heap.size<(w.heap.size+3):=by omega
 obtain ⟨z_x_0,z_x_1,z_x_2⟩:=Ad' g2.out
 have hlta_x:w.heap.size+1<(w.heap.size+3):=by omega
 obtain ⟨z_g_0,z_g_1,z_g_2⟩:=Ad' g3.out
 have hlta_g:w.heap.size+2<(w.heap.size+3):=by omega
 have H0:=Ah'.start w1 (w.heap.size+3)
 have H0':=H0
 unfold Ah' at H0'
 refine wp_region_held_drew (S:=(fun w'=>(∀ b o,b<(w.heap.size+3)→w'.cell? ⟨b,o,none⟩=w1.cell? ⟨b,o,none⟩)∧Below ((w.heap.size+3)) w1 w'∧An' w1 w')) (by kernel_rfl) ?_ (fun hHeld=>?_)
 · (try dsimp only)
   exact H0'
 obtain ⟨w2,hw2⟩:=eX w1.drew
 have b2:Hid (Below w1.heap.size w1 w2):=by rw [hw2];exact ⟨rfl,rfl,rfl,nL _,fun _ _=>rfl⟩
 rw [←hw2] at hHeld H0 ⊢
 clear hw2 H0'
 refine tk (i:=0) (h:=?_)
 try simp only [Act.put,lt,ly,lu]
 refine tk (i:=2) (h:=?_)
 try simp only [Act.put,lt,ly,lu]
 refine tk (i:=5) (h:=?_)
 try simp only [Act.put,lt,ly,lu]
 refine tk (i:=6) (h:=?_)
 try simp only [Act.put,lt,ly,lu]
 refine rdz (i:=1) (h:=fun K hK=>?_);go_simp;go_at_call 18
 refine (AE' (w:=w2) eo.out (by omega) (by omega)).mono ?_
 rintro e w3 ⟨v3,rfl,hv3,b3⟩
 obtain ⟨C7,j7,C8,j8,rfl,-,-⟩:=id hv3.opened
 replace hv3:=hid hv3
 replace b3:=hid b3
 have hk3:=Av' H0 HSZa b3.out;clear hHeld H0
 refine hK.out _ _ (by (try dsimp only);with_reducible exact hun hk3) (fun hHeld=>?_)
 clear hK K;try simp only [Act.put,lt,ly,lu]
 have y0_3:=hid (bS (bS b1.out b2.out) b3.out)
 refine rdz (i:=3) (h:=fun K hK=>?_);go_simp;go_at_call 21
 refine (Cw' ed.out hv3.out (hg.out.keep y0_3.out) ko.out kg.out).mono ?_
 rintro e w4 ⟨v4,rfl,hv4,b4⟩
 obtain ⟨C9,j9,C10,j10,rfl,-,-⟩:=id hv4.opened
 replace hv4:=hid hv4
 replace b4:=hid b4
 have hk4:=Av' hk3 HSZa b4.out;clear hHeld hk3
 refine hK.out _ _ (by (try dsimp only);with_reducible exact hun hk4) (fun hHeld=>?_)
 clear hK K;try simp only [Act.put,lt,ly,lu]
 have y0_4:=hid (bS y0_3.out b4.out)
 refine rdz (i:=4) (h:=fun K hK=>?_);go_simp;go_at_call 25
 refine (CZ' em.out (hy.out.keep y0_4.out) hv4.out ky.out kd.out).mono ?_
 rintro e w5 ⟨v5,rfl,hv5,b5⟩
 obtain ⟨C11,j11,C12,j12,rfl,-,-⟩:=id hv5.opened
 replace hv5:=hid hv5
 replace b5:=hid b5
 have hk5:=Av' hk4 HSZa b5.out;clear hHeld hk4
 refine hK.out _ _ (by (try dsimp only);with_reducible exact hun hk5) (fun hHeld=>?_)
 clear hK K;try simp only [Act.put,lt,ly,lu]
 have y0_5:=hid (bS y0_4.out b5.out)
 refine rdz (i:=7) (h:=fun K hK=>?_);go_simp;go_at_call 25
 refine (CZ' en.out (hg.out.keep y0_5.out) (hx.out.keep y0_5.out) kg.out kx.out).mono ?_
 rintro e w6 ⟨v6,rfl,hv6,b6⟩
 obtain ⟨C13,j13,C14,j14,rfl,-,-⟩:=id hv6.opened
 replace hv6:=hid hv6
 replace b6:=hid b6
 have hk6:=Av' hk5 HSZa b6.out;clear hHeld hk5
 refine hK.out _ _ (by (try dsimp only);with_reducible exact hun hk6) (fun hHeld=>?_)
 clear hK K;try simp only [Act.put,lt,ly,lu]
 refine rdz (i:=8) (h:=fun K hK=>?_);go_simp;go_at_call 22
 refine (Ef' es.out (hv5.out.keep b6.out) hv6.out km.out kn.out).mono ?_
 rintro e w7 ⟨v7,rfl,hv7,b7⟩
 obtain ⟨C15,j15,C16,j16,rfl,-,-⟩:=id hv7.opened
 replace hv7:=hid hv7
 replace b7:=hid b7
 have hk7:=Av' hk6 HSZa b7.out;clear hHeld hk6
 refine hK.out _ _ (by (try dsimp only);with_reducible exact hun hk7) (fun hHeld=>?_)
 clear hK K;try simp only [Act.put,lt,ly,lu]
 have y1_7:=hid (bS (bS (bS (bS (bS b2.out b3.out) b4.out) b5.out) b6.out) b7.out)
 have Dq16:=(Ab' g4.out y1_7.out)
 refine rdz (i:=9) (h:=fun K hK=>?_)
 have q0:w7.cell? ⟨w.heap.size+3,0,none⟩=some (.bool false):=cR _ _ _ _ _ _ Dq16
 have F0:w7.frozen? ⟨w.heap.size+3,0,none⟩=false:=fR w7 (w.heap.size+3) 0 _ _ Dq16
 have q1:w7.cell? ⟨w.heap.size+3,1,none⟩=some (.slice none 0 0):=cR _ _ _ _ _ _ Dq16
 have F1:w7.frozen? ⟨w.heap.size+3,1,none⟩=false:=fR w7 (w.heap.size+3) 1 _ _ Dq16
 have q2:w7.cell? ⟨w.heap.size+3,2,none⟩=some (.slice none 0 0):=cR _ _ _ _ _ _ Dq16
 have F2:w7.frozen? ⟨w.heap.size+3,2,none⟩=false:=fR w7 (w.heap.size+3) 2 _ _ Dq16
 replace Dq16:=hid Dq16
 go_simp
 clear q0 F0 q1 F1 q2 F2
 have y0_7:=hid (bS (bS y0_5.out b6.out) b7.out)
 have FB:=hid y0_7.out
 have FV:=hid hv7.out
 obtain ⟨ue,hw⟩:=eX ((((w7.setCell ⟨w.heap.size+3,0,none⟩ (.bool (decide (s.num<0)))).setCell ⟨w.heap.size+3,1,none⟩ (.slice C15 (Vx.len s.num.natAbs) j15)).setCell ⟨w.heap.size+3,2,none⟩ (.slice C16 (Vx.len (below s.den)) j16)))
 obtain ⟨E_ue,OT,LV,BL⟩:=AE Dq16.out hw
 rw [←hw]
 clear hw
 replace E_ue:=hid E_ue
 have FE:=hid (LV.num FV.out)
 replace FB:=hid (BL _ _ (by omega) FB.out)
 have HKE:=hk7
 refine hK.out _ _ ?_ (fun hHeld2=>?_)
 · (try dsimp only)
   exact ⟨fun b o hb=>(Au (BL (w.heap.size+3) _ (by omega) hk7.2.1)) b o hb,BL (w.heap.size+3) _ (by omega) hk7.2.1,A7' hk7.2.2 LV⟩
 clear hK K hHeld OT LV BL HKE
 try simp only [Act.put,lt,ly,lu]
 have hHeld:=hHeld2
 clear hHeld2
 refine wpAnyH_done (by kernel_rfl) ?_ _
 clear hHeld
 obtain ⟨r0,r1,r2⟩:=Ad' E_ue.out
 go_wp2_with fail
 refine bP (v:=.agg #[.bool (decide (s.num<0)),.slice C15 (Vx.len s.num.natAbs) j15,.slice C16 (Vx.len (below s.den)) j16]) ?_ rfl ⟨_,rfl,FE.out,FB.out⟩
 simp [results,Tryz.results106,go_sem,r0,r1,r2]
def Bo' (u v g:Rat):Rat:=u+(v - u) / g
theorem Ej' {w:World} {vx vy:Value} {x y q:Rat} (hq:x / y=q) (hx:Ac' w vx x) (hy:Ac' w vy y) (hs:Aa' x≤536870912) (ht:Aa' y≤536870912):Calls Tryz.prog 109 #[vx,vy] w (Az' w q):=hq ▸ Gq' hx hy (nT hs (by omega)) (nT ht (by omega))
theorem EN' {w:World} {vx vy vg:Value} {x y g:Rat} (hx:Ac' w vx x) (hy:Ac' w vy y) (hg:Ac' w vg g) (sx:Aa' x≤16777216) (sy:Aa' y≤16777216) (sg:Aa' g≤16777216) :
   Calls Tryz.prog 108 #[vx,vy,vg] w (Az' w (Bo' x y g)):=by
 obtain ⟨d,ed⟩:=eY (y - x:Rat)
 obtain ⟨q,eq⟩:=eY (d / g:Rat)
 obtain ⟨s,es⟩:=eY (x+q:Rat)
 have hs:s=Bo' x y g:=by unfold Bo';rw [←es,←eq,←ed]
 have sd:Aa' d≤Aa' y+Aa' x+1:=by rw [←ed];exact Vx.AC' y x
 have sq:Aa' q≤Aa' d+Aa' g+1:=by rw [←eq];have:=Vx.AZ d g;omega
 have ky:Aa' y≤536870912:=by omega
 have kx:Aa' x≤536870912:=by omega
 have kg:Aa' g≤536870912:=by omega
 have kd:Aa' d≤536870912:=by omega
 have kq:Aa' q≤536870912:=by omega
 rw [←hs]
 clear sd sq hs
 replace ed:=hid ed
 replace eq:=hid eq
 replace es:=hid es
 replace ky:=hid ky
 replace kx:=hid kx
 replace kg:=hid kg
 replace kd:=hid kd
 replace kq:=hid kq
 replace sx:=hid sx
 replace sy:=hid sy
 replace sg:=hid sg
 obtain ⟨C1,j1,C2,j2,rfl,-,-⟩:=id hx.opened
 replace hx:=hid hx
 obtain ⟨C3,j3,C4,j4,rfl,-,-⟩:=id hy.opened
 replace hy:=hid hy
 obtain ⟨C5,j5,C6,j6,rfl,-,-⟩:=id hg.opened
 replace hg:=hid hg
 obtain ⟨w1,hw1⟩:=eX (((((w.alloc (.cells #[.bool (decide (x.num<0)),.slice C1 (Vx.len x.num.natAbs) j1,.slice C2 (Vx.len (below x.den)) j2] 35)).alloc (.cells #[.bool (decide (y.num<0)),.slice C3 (Vx.len y.num.natAbs) j3,.slice C4 (Vx.len (below y.den)) j4] 35)).alloc (.cells #[.bool (decide (g.num<0)),.slice C5 (Vx.len g.num.natAbs) j5,.slice C6 (Vx.len (below g.den)) j6] 35)).alloc (.cells #[.bool false,.slice none 0 0,.slice none 0 0] 35)))
 obtain ⟨b1,g1,g2,g3,g4⟩:=DX' w (.cells #[.bool (decide (x.num<0)),.slice C1 (Vx.len x.num.natAbs) j1,.slice C2 (Vx.len (below x.den)) j2] 35) (.cells #[.bool (decide (y.num<0)),.slice C3 (Vx.len y.num.natAbs) j3,.slice C4 (Vx.len (below y.den)) j4] 35) (.cells #[.bool (decide (g.num<0)),.slice C5 (Vx.len g.num.natAbs) j5,.slice C6 (Vx.len (below g.den)) j6] 35) (.cells #[.bool false,.slice none 0 0,.slice none 0 0] 35)
 rw [←hw1] at b1 g1 g2 g3 g4
 replace g1:=hid g1
 replace g2:=hid g2
 replace g3:=hid g3
 replace g4:=hid g4
 replace b1:=hid b1
 go_enter Tryz.func108,Tryz.ntmps108
 go_upto_region 1 with fail
 rw [←hw1]
 clear hw1
 go_wp2_with fail
 have HSZa:Hid ((w.heap.size+3)≤w1.heap.size):=hid (by have:=Al' g4.out;omega)
 obtain ⟨z_x_0,z_x_1,z_x_2⟩:=Ad' g1.out
 have hlta_x:w.heap.size<(w.heap.size+3):=by omega
 obtain ⟨z_y_0,z_y_1,z_y_2⟩:=Ad' g2.out
 have hlta_y:w.heap.size+1<(w.heap.size+3):=by omega
 obtain ⟨z_g_0,z_g_1,z_g_2⟩:=Ad' g3.out
 have hlta_g:w.heap.size+2<(w.heap.size+3):=by omega
 have H0:=Ah'.start w1 (w.heap.size+3)
 have H0':=H0
 unfold Ah' at H0'
 refine wp_region_held_drew (S:=(fun w'=>(∀ b o,b<(w.heap.size+3)→w'.cell? ⟨b,o,none⟩=w1.cell? ⟨b,o,none⟩)∧Below ((w.heap.size+3)) w1 w'∧An' w1 w')) (by kernel_rfl) ?_ (fun hHeld=>?_)
 · (try dsimp only)
   exact H0'
 obtain ⟨w2,hw2⟩:=eX w1.drew
 have b2:Hid (Below w1.heap.size w1 w2):=by rw [hw2];exact ⟨rfl,rfl,rfl,nL _,fun _ _=>rfl⟩
 rw [←hw2] at hHeld H0 ⊢
 clear hw2 H0'
 refine tk (i:=0) (h:=?_)
 try simp only [Act.put,lt,ly,lu]
 refine tk (i:=1) (h:=?_)
 try simp only [Act.put,lt,ly,lu]
 refine tk (i:=2) (h:=?_)
 try simp only [Act.put,lt,ly,lu]
 refine tk (i:=4) (h:=?_)
 try simp only [Act.put,lt,ly,lu]
 have y0_2:=hid (bS b1.out b2.out)
 refine rdz (i:=3) (h:=fun K hK=>?_);go_simp;go_at_call 21
 refine (Cw' ed.out (hy.out.keep y0_2.out) (hx.out.keep y0_2.out) ky.out kx.out).mono ?_
 rintro e w3 ⟨v3,rfl,hv3,b3⟩
 obtain ⟨C7,j7,C8,j8,rfl,-,-⟩:=id hv3.opened
 replace hv3:=hid hv3
 replace b3:=hid b3
 have hk3:=Av' H0 HSZa b3.out;clear hHeld H0
 refine hK.out _ _ (by (try dsimp only);with_reducible exact hun hk3) (fun hHeld=>?_)
 clear hK K;try simp only [Act.put,lt,ly,lu]
 have y0_3:=hid (bS y0_2.out b3.out)
 refine rdz (i:=5) (h:=fun K hK=>?_);go_simp;go_at_call 109
 refine (Ej' eq.out hv3.out (hg.out.keep y0_3.out) kd.out kg.out).mono ?_
 rintro e w4 ⟨v4,rfl,hv4,b4⟩
 obtain ⟨C9,j9,C10,j10,rfl,-,-⟩:=id hv4.opened
 replace hv4:=hid hv4
 replace b4:=hid b4
 have hk4:=Av' hk3 HSZa b4.out;clear hHeld hk3
 refine hK.out _ _ (by (try dsimp only);with_reducible exact hun hk4) (fun hHeld=>?_)
 clear hK K;try simp only [Act.put,lt,ly,lu]
 have y0_4:=hid (bS y0_3.out b4.out)
 refine rdz (i:=6) (h:=fun K hK=>?_);go_simp;go_at_call 22
 refine (Ef' es.out (hx.out.keep y0_4.out) hv4.out kx.out kq.out).mono ?_
 rintro e w5 ⟨v5,rfl,hv5,b5⟩
 obtain ⟨C11,j11,C12,j12,rfl,-,-⟩:=id hv5.opened
 replace hv5:=hid hv5
 replace b5:=hid b5
 have hk5:=Av' hk4 HSZa b5.out;clear hHeld hk4
 refine hK.out _ _ (by (try dsimp only);with_reducible exact hun hk5) (fun hHeld=>?_)
 clear hK K;try simp only [Act.put,lt,ly,lu]
 have y1_5:=hid (bS (bS (bS b2.out b3.out) b4.out) b5.out)
 have Dq24:=(Ab' g4.out y1_5.out)
 refine rdz (i:=7) (h:=fun K hK=>?_)
 have q0:w5.cell? ⟨w.heap.size+3,0,none⟩=some (.bool false):=cR _ _ _ _ _ _ Dq24
 have F0:w5.frozen? ⟨w.heap.size+3,0,none⟩=false:=fR w5 (w.heap.size+3) 0 _ _ Dq24
 have q1:w5.cell? ⟨w.heap.size+3,1,none⟩=some (.slice none 0 0):=cR _ _ _ _ _ _ Dq24
 have F1:w5.frozen? ⟨w.heap.size+3,1,none⟩=false:=fR w5 (w.heap.size+3) 1 _ _ Dq24
 have q2:w5.cell? ⟨w.heap.size+3,2,none⟩=some (.slice none 0 0):=cR _ _ _ _ _ _ Dq24
 have F2:w5.frozen? ⟨w.heap.size+3,2,none⟩=false:=fR w5 (w.heap.size+3) 2 _ _ Dq24
 replace Dq24:=hid Dq24
 go_simp
 clear q0 F0 q1 F1 q2 F2
 have y0_5:=hid (bS y0_4.out b5.out)
 have FB:=hid y0_5.out
 have FV:=hid hv5.out
 obtain ⟨ue,hw⟩:=eX ((((w5.setCell ⟨w.heap.size+3,0,none⟩ (.bool (decide (s.num<0)))).setCell ⟨w.heap.size+3,1,none⟩ (.slice C11 (Vx.len s.num.natAbs) j11)).setCell ⟨w.heap.size+3,2,none⟩ (.slice C12 (Vx.len (below s.den)) j12)))
 obtain ⟨E_ue,OT,LV,BL⟩:=AE Dq24.out hw
 rw [←hw]
 clear hw
 replace E_ue:=hid E_ue
 have FE:=hid (LV.num FV.out)
 replace FB:=hid (BL _ _ (by omega) FB.out)
 have HKE:=hk5
 refine hK.out _ _ ?_ (fun hHeld2=>?_)
 · (try dsimp only)
   exact ⟨fun b o hb=>(Au (BL (w.heap.size+3) _ (by omega) hk5.2.1)) b o hb,BL (w.heap.size+3) _ (by omega) hk5.2.1,A7' hk5.2.2 LV⟩
 clear hK K hHeld OT LV BL HKE
 try simp only [Act.put,lt,ly,lu]
 have hHeld:=hHeld2
 clear hHeld2
 refine wpAnyH_done (by kernel_rfl) ?_ _
 clear hHeld
 obtain ⟨r0,r1,r2⟩:=Ad' E_ue.out
 go_wp2_with fail
 refine bP (v:=.agg #[.bool (decide (s.num<0)),.slice C11 (Vx.len s.num.natAbs) j11,.slice C12 (Vx.len (below s.den)) j12]) ?_ rfl ⟨_,rfl,FE.out,FB.out⟩
 simp [results,Tryz.results108,go_sem,r0,r1,r2]
theorem IF':∀ k:Fin 8,∀ p:Fin 3,(bits BinOp.and IntKind.i64 (((k.val:Nat):Int) / 2^p.val) 1==0)=decide ((k.val >>> p.val)%2=0):=by decide +kernel
theorem G9 {k p:Nat} (hk:k<8) (hp:p<3):(bits BinOp.and IntKind.i64 (((k:Nat):Int) / 2^p) 1==0)=decide ((k >>> p)%2=0):=IF' ⟨k,hk⟩ ⟨p,hp⟩
theorem IV' {w:World} {vb:Value} {bp k p:Nat} {lo hi q:Rat} (hb:Ao' w vb lo hi) (hc:w.heap[bp]?=some (.cells #[.int .i64 ((k:Nat):Int)] 3 (0,0))) (hk:k<8) (hp:p<3) (slo:Aa' lo≤16777216) (shi:Aa' hi≤16777216) (hq:BS k p lo hi=q) (h:(k >>> p)%2=0) :
   Calls Tryz.prog 138 #[.int .i64 ((p:Nat):Int),vb,.pointer (some ⟨bp,0,none⟩)] w (Az' w q):=by
 have hbit:=G9 hk hp
 rw [dT_ h] at hbit
 have hbit2:bits BinOp.and IntKind.i64 (((k:Nat):Int) / 2^p) 1=0:=by simpa using hbit
 rw [show BS k p lo hi=lo from if_pos h] at hq
 subst hq
 have hp0:(0:Int)≤((p:Nat):Int):=by omega
 replace hc:=hid hc
 replace slo:=hid slo
 have hp64:min p 64=p:=by omega
 clear h hk
 obtain ⟨C1,j1,C2,j2,C3,j3,C4,j4,rfl,hbl,hbh⟩:=id hb.opened
 replace hb:=hid hb
 replace hbl:=hid hbl
 replace hbh:=hid hbh
 obtain ⟨w1,hw1⟩:=eX (((w.alloc (.cells #[.bool (decide (lo.num<0)),.slice C1 (Vx.len lo.num.natAbs) j1,.slice C2 (Vx.len (below lo.den)) j2,.bool (decide (hi.num<0)),.slice C3 (Vx.len hi.num.natAbs) j3,.slice C4 (Vx.len (below hi.den)) j4] 37)).alloc (.cells #[.bool false,.slice none 0 0,.slice none 0 0] 35)))
 obtain ⟨b1,g1,g2⟩:=AL' hw1
 replace g1:=hid g1
 replace g2:=hid g2
 replace b1:=hid b1
 go_enter Tryz.func138,Tryz.ntmps138
 go_upto_region 1 with fail
 rw [←hw1]
 clear hw1
 have y0:w1.cell? ⟨bp,0,none⟩=some (.int .i64 ((k:Nat):Int)):=cR _ _ 0 _ _ _ (Ab' hc.out b1.out)
 obtain ⟨z_b_0,z_b_1,z_b_2,z_b_3,z_b_4,z_b_5⟩:=Aj g1.out
 have HX:=hid (Bm' (hb.out.keep b1.out) (nT slo.out (by omega)))
 go_wp2_with fail
 refine (HX.out).mono ?_
 rintro e w2 ⟨v2,rfl,hv2,b2⟩
 obtain ⟨C5,j5,C6,j6,rfl,-,-⟩:=id hv2.opened
 replace hv2:=hid hv2
 replace b2:=hid b2
 clear HX
 have DR:=(Ab' g2.out b2.out)
 have q0:w2.cell? ⟨w.heap.size+1,0,none⟩=some (.bool false):=cR _ _ _ _ _ _ DR
 have F0:w2.frozen? ⟨w.heap.size+1,0,none⟩=false:=fR w2 (w.heap.size+1) 0 _ _ DR
 have q1:w2.cell? ⟨w.heap.size+1,1,none⟩=some (.slice none 0 0):=cR _ _ _ _ _ _ DR
 have F1:w2.frozen? ⟨w.heap.size+1,1,none⟩=false:=fR w2 (w.heap.size+1) 1 _ _ DR
 have q2:w2.cell? ⟨w.heap.size+1,2,none⟩=some (.slice none 0 0):=cR _ _ _ _ _ _ DR
 have F2:w2.frozen? ⟨w.heap.size+1,2,none⟩=false:=fR w2 (w.heap.size+1) 2 _ _ DR
 have y0_2:=hid (bS b1.out b2.out)
 have FB:=y0_2.out
 have FV:=hv2.out
 obtain ⟨ue,hw⟩:=eX ((((w2.setCell ⟨w.heap.size+1,0,none⟩ (.bool (decide (lo.num<0)))).setCell ⟨w.heap.size+1,1,none⟩ (.slice C5 (Vx.len lo.num.natAbs) j5)).setCell ⟨w.heap.size+1,2,none⟩ (.slice C6 (Vx.len (below lo.den)) j6)))
 obtain ⟨E_ue,-,LV,BL⟩:=AE DR hw
 have FE:=hid (LV.num FV)
 replace FB:=hid (BL _ _ (by omega) FB)
 replace E_ue:=hid E_ue
 replace hw:=hid hw
 clear DR FV LV BL
 go_wp2_with fail
 rw [←hw.out]
 obtain ⟨r0,r1,r2⟩:=Ad' E_ue.out
 refine bP (v:=.agg #[.bool (decide (lo.num<0)),.slice C5 (Vx.len lo.num.natAbs) j5,.slice C6 (Vx.len (below lo.den)) j6]) ?_ rfl ⟨_,rfl,FE.out,FB.out⟩
 simp [results,Tryz.results138,go_sem,r0,r1,r2]
theorem IW {w:World} {vb:Value} {bp k p:Nat} {lo hi q:Rat} (hb:Ao' w vb lo hi) (hc:w.heap[bp]?=some (.cells #[.int .i64 ((k:Nat):Int)] 3 (0,0))) (hk:k<8) (hp:p<3) (slo:Aa' lo≤16777216) (shi:Aa' hi≤16777216) (hq:BS k p lo hi=q) (h:¬ (k >>> p)%2=0) :
   Calls Tryz.prog 138 #[.int .i64 ((p:Nat):Int),vb,.pointer (some ⟨bp,0,none⟩)] w (Az' w q):=by
 have hbit:=G9 hk hp
 rw [dF_ h] at hbit
 have hbit2:¬ bits BinOp.and IntKind.i64 (((k:Nat):Int) / 2^p) 1=0:=by simpa using hbit
 rw [show BS k p lo hi=hi from if_neg h] at hq
 subst hq
 have hp0:(0:Int)≤((p:Nat):Int):=by omega
 replace hc:=hid hc
 replace shi:=hid shi
 have hp64:min p 64=p:=by omega
 clear h hk
 obtain ⟨C1,j1,C2,j2,C3,j3,C4,j4,rfl,hbl,hbh⟩:=id hb.opened
 replace hb:=hid hb
 replace hbl:=hid hbl
 replace hbh:=hid hbh
 obtain ⟨w1,hw1⟩:=eX (((w.alloc (.cells #[.bool (decide (lo.num<0)),.slice C1 (Vx.len lo.num.natAbs) j1,.slice C2 (Vx.len (below lo.den)) j2,.bool (decide (hi.num<0)),.slice C3 (Vx.len hi.num.natAbs) j3,.slice C4 (Vx.len (below hi.den)) j4] 37)).alloc (.cells #[.bool false,.slice none 0 0,.slice none 0 0] 35)))
 obtain ⟨b1,g1,g2⟩:=AL' hw1
 replace g1:=hid g1
 replace g2:=hid g2
 replace b1:=hid b1
 go_enter Tryz.func138,Tryz.ntmps138
 go_upto_region 1 with fail
 rw [←hw1]
 clear hw1
 have y0:w1.cell? ⟨bp,0,none⟩=some (.int .i64 ((k:Nat):Int)):=cR _ _ 0 _ _ _ (Ab' hc.out b1.out)
 obtain ⟨z_b_0,z_b_1,z_b_2,z_b_3,z_b_4,z_b_5⟩:=Aj g1.out
 have HX:=hid (BJ' (hb.out.keep b1.out) (nT shi.out (by omega)))
 go_wp2_with fail
 refine (HX.out).mono ?_
 rintro e w2 ⟨v2,rfl,hv2,b2⟩
 obtain ⟨C5,j5,C6,j6,rfl,-,-⟩:=id hv2.opened
 replace hv2:=hid hv2
 replace b2:=hid b2
 clear HX
 have DR:=(Ab' g2.out b2.out)
 have q0:w2.cell? ⟨w.heap.size+1,0,none⟩=some (.bool false):=cR _ _ _ _ _ _ DR
 have F0:w2.frozen? ⟨w.heap.size+1,0,none⟩=false:=fR w2 (w.heap.size+1) 0 _ _ DR
 have q1:w2.cell? ⟨w.heap.size+1,1,none⟩=some (.slice none 0 0):=cR _ _ _ _ _ _ DR
 have F1:w2.frozen? ⟨w.heap.size+1,1,none⟩=false:=fR w2 (w.heap.size+1) 1 _ _ DR
 have q2:w2.cell? ⟨w.heap.size+1,2,none⟩=some (.slice none 0 0):=cR _ _ _ _ _ _ DR
 have F2:w2.frozen? ⟨w.heap.size+1,2,none⟩=false:=fR w2 (w.heap.size+1) 2 _ _ DR
 have y0_2:=hid (bS b1.out b2.out)
 have FB:=y0_2.out
 have FV:=hv2.out
 obtain ⟨ue,hw⟩:=eX ((((w2.setCell ⟨w.heap.size+1,0,none⟩ (.bool (decide (hi.num<0)))).setCell ⟨w.heap.size+1,1,none⟩ (.slice C5 (Vx.len hi.num.natAbs) j5)).setCell ⟨w.heap.size+1,2,none⟩ (.slice C6 (Vx.len (below hi.den)) j6)))
 obtain ⟨E_ue,-,LV,BL⟩:=AE DR hw
 have FE:=hid (LV.num FV)
 replace FB:=hid (BL _ _ (by omega) FB)
 replace E_ue:=hid E_ue
 replace hw:=hid hw
 clear DR FV LV BL
 go_wp2_with fail
 rw [←hw.out]
 obtain ⟨r0,r1,r2⟩:=Ad' E_ue.out
 refine bP (v:=.agg #[.bool (decide (hi.num<0)),.slice C5 (Vx.len hi.num.natAbs) j5,.slice C6 (Vx.len (below hi.den)) j6]) ?_ rfl ⟨_,rfl,FE.out,FB.out⟩
 simp [results,Tryz.results138,go_sem,r0,r1,r2]
theorem Ek {w:World} {pi:Int} {vb:Value} {bp k:Nat} {lo hi q:Rat} {p:Nat} (hpi:((p:Nat):Int)=pi) (hq:BS k p lo hi=q) (hb:Ao' w vb lo hi) (hc:w.heap[bp]?=some (.cells #[.int .i64 ((k:Nat):Int)] 3 (0,0))) (hk:k<8) (hp:p<3) (slo:Aa' lo≤16777216) (shi:Aa' hi≤16777216):Calls Tryz.prog 138 #[.int .i64 pi,vb,.pointer (some ⟨bp,0,none⟩)] w (Az' w q):=by
 subst hpi
 rcases Decidable.em ((k >>> p)%2=0) with h | h
 · exact IV' hb hc hk hp slo shi hq h
 · exact IW hb hc hk hp slo shi hq h
def Cs (w:World) (oa ob oc:Obj) (F:Rat→Rat→Rat→Rat) (a0 a1 m0 m1 c0 c1:Rat) (k:Nat) (vs:Value) (wr:World):Prop :=
  Cu' Ac' 35 (w.heap.size+4) wr vs (Cs' F a0 a1 m0 m1 c0 c1 k)∧wr.heap[w.heap.size]?=some oa∧wr.heap[w.heap.size+1]?=some ob∧wr.heap[w.heap.size+2]?=some oc∧wr.heap[w.heap.size+3]?=some (.cells #[.bool false,.slice none 0 0,.slice none 0 0,.bool false,.slice none 0 0,.slice none 0 0] 37 (0,0))∧Below w.heap.size w wr
theorem Dw' {w:World} {va vb vc:Value} {a0 a1 m0 m1 c0 c1 lo hi:Rat} {F:Rat→Rat→Rat→Rat} {fn:Nat} {cap:Array Value} (hE:Go.Proofs.Enters Tryz.prog fn)
   (hF:∀ (u:World) (vx vy vz:Value) (x y z:Rat),Below w.heap.size w u→x∈[a0,a1]→y∈[m0,m1]→z∈[c0,c1]→Ac' u vx x→Ac' u vy y→Ac' u vz z→Calls Tryz.prog fn (#[vx,vy,vz]++cap) u (Az' u (F x y z)))
   (ha:Ao' w va a0 a1) (hb:Ao' w vb m0 m1) (hc:Ao' w vc c0 c1) (sa:Aa' a0≤16777216∧Aa' a1≤16777216) (sb:Aa' m0≤16777216∧Aa' m1≤16777216) (sc:Aa' c0≤16777216∧Aa' c1≤16777216)
   (sF:∀ y∈F a0 m0 c0::Ct F a0 a1 m0 m1 c0 c1,Aa' y≤16777216) (el:CB F a0 a1 m0 m1 c0 c1=lo) (eh:CB' F a0 a1 m0 m1 c0 c1=hi) :
   Calls Tryz.prog 107 #[.func (.func fn) #[] cap,va,vb,vc] w (Bt' w lo hi):=by
 replace hF:=hid hF
 replace hE:=hid hE
 replace sa:=hid sa
 replace sb:=hid sb
 replace sc:=hid sc
 replace sF:=hid sF
 replace el:=hid el
 replace eh:=hid eh
 obtain ⟨C1,j1,C2,j2,C3,j3,C4,j4,rfl,hal,hah⟩:=id ha.opened
 replace ha:=hid ha
 replace hal:=hid hal
 replace hah:=hid hah
 obtain ⟨C5,j5,C6,j6,C7,j7,C8,j8,rfl,hbl,hbh⟩:=id hb.opened
 replace hb:=hid hb
 replace hbl:=hid hbl
 replace hbh:=hid hbh
 obtain ⟨C9,j9,C10,j10,C11,j11,C12,j12,rfl,hcl,hch⟩:=id hc.opened
 replace hc:=hid hc
 replace hcl:=hid hcl
 replace hch:=hid hch
 obtain ⟨w1,hw1⟩:=eX (((((w.alloc (.cells #[.bool (decide (a0.num<0)),.slice C1 (Vx.len a0.num.natAbs) j1,.slice C2 (Vx.len (below a0.den)) j2,.bool (decide (a1.num<0)),.slice C3 (Vx.len a1.num.natAbs) j3,.slice C4 (Vx.len (below a1.den)) j4] 37)).alloc (.cells #[.bool (decide (m0.num<0)),.slice C5 (Vx.len m0.num.natAbs) j5,.slice C6 (Vx.len (below m0.den)) j6,.bool (decide (m1.num<0)),.slice C7 (Vx.len m1.num.natAbs) j7,.slice C8 (Vx.len (below m1.den)) j8] 37)).alloc (.cells #[.bool (decide (c0.num<0)),.slice C9 (Vx.len c0.num.natAbs) j9,.slice C10 (Vx.len (below c0.den)) j10,.bool (decide (c1.num<0)),.slice C11 (Vx.len c1.num.natAbs) j11,.slice C12 (Vx.len (below c1.den)) j12] 37)).alloc (.cells #[.bool false,.slice none 0 0,.slice none 0 0,.bool false,.slice none 0 0,.slice none 0 0] 37)))
 obtain ⟨b1,g1,g2,g3,g4⟩:=DX' w (.cells #[.bool (decide (a0.num<0)),.slice C1 (Vx.len a0.num.natAbs) j1,.slice C2 (Vx.len (below a0.den)) j2,.bool (decide (a1.num<0)),.slice C3 (Vx.len a1.num.natAbs) j3,.slice C4 (Vx.len (below a1.den)) j4] 37) (.cells #[.bool (decide (m0.num<0)),.slice C5 (Vx.len m0.num.natAbs) j5,.slice C6 (Vx.len (below m0.den)) j6,.bool (decide (m1.num<0)),.slice C7 (Vx.len m1.num.natAbs) j7,.slice C8 (Vx.len (below m1.den)) j8] 37) (.cells #[.bool (decide (c0.num<0)),.slice C9 (Vx.len c0.num.natAbs) j9,.slice C10 (Vx.len (below c0.den)) j10,.bool (decide (c1.num<0)),.slice C11 (Vx.len c1.num.natAbs) j11,.slice C12 (Vx.len (below c1.den)) j12] 37) (.cells #[.bool false,.slice none 0 0,.slice none 0 0,.bool false,.slice none 0 0,.slice none 0 0] 37)
 rw [←hw1] at b1 g1 g2 g3 g4
 replace g1:=hid g1
 replace g2:=hid g2
 replace g3:=hid g3
 replace g4:=hid g4
 replace b1:=hid b1
 go_enter Tryz.func107,Tryz.ntmps107
 go_upto_region 1 with fail
 rw [←hw1]
 clear hw1
 have HE:Hid (Cs w (.cells #[.bool (decide (a0.num<0)),.slice C1 (Vx.len a0.num.natAbs) j1,.slice C2 (Vx.len (below a0.den)) j2,.bool (decide (a1.num<0)),.slice C3 (Vx.len a1.num.natAbs) j3,.slice C4 (Vx.len (below a1.den)) j4] 37 (0,0)) (.cells #[.bool (decide (m0.num<0)),.slice C5 (Vx.len m0.num.natAbs) j5,.slice C6 (Vx.len (below m0.den)) j6,.bool (decide (m1.num<0)),.slice C7 (Vx.len m1.num.natAbs) j7,.slice C8 (Vx.len (below m1.den)) j8] 37 (0,0)) (.cells #[.bool (decide (c0.num<0)),.slice C9 (Vx.len c0.num.natAbs) j9,.slice C10 (Vx.len (below c0.den)) j10,.bool (decide (c1.num<0)),.slice C11 (Vx.len c1.num.natAbs) j11,.slice C12 (Vx.len (below c1.den)) j12] 37 (0,0)) F a0 a1 m0 m1 c0 c1 0 (.slice none 0 0) w1):=hid ⟨Or.inr ⟨rfl,rfl⟩,g1.out,g2.out,g3.out,g4.out,b1.out⟩
 clear g1 g2 g3 g4 b1 hal hah hbl hbh hcl hch
 go_wp2_with fail
 go_loopw [9,12] (fun vs iv wr=>∃ k:Nat,k≤8∧iv=.int .i64 ((k:Nat):Int)∧Hid (Cs w (.cells #[.bool (decide (a0.num<0)),.slice C1 (Vx.len a0.num.natAbs) j1,.slice C2 (Vx.len (below a0.den)) j2,.bool (decide (a1.num<0)),.slice C3 (Vx.len a1.num.natAbs) j3,.slice C4 (Vx.len (below a1.den)) j4] 37 (0,0)) (.cells #[.bool (decide (m0.num<0)),.slice C5 (Vx.len m0.num.natAbs) j5,.slice C6 (Vx.len (below m0.den)) j6,.bool (decide (m1.num<0)),.slice C7 (Vx.len m1.num.natAbs) j7,.slice C8 (Vx.len (below m1.den)) j8] 37 (0,0)) (.cells #[.bool (decide (c0.num<0)),.slice C9 (Vx.len c0.num.natAbs) j9,.slice C10 (Vx.len (below c0.den)) j10,.bool (decide (c1.num<0)),.slice C11 (Vx.len c1.num.natAbs) j11,.slice C12 (Vx.len (below c1.den)) j12] 37 (0,0)) F a0 a1 m0 m1 c0 c1 k vs wr)) (fun _ iv _=>8 - (intOf iv).toNat)
 case atStart=>exact ⟨0,Nat.zero_le _,rfl,HE⟩
 case round =>
   obtain ⟨k,hk,rfl,hrel⟩:=hrel
   clear HE
   rcases Nat.lt_or_ge k 8 with hkn | hkn
   · have hin:decide (((k:Nat):Int)<8)=true:=dT_ (by omega)
     have hin2:((k:Nat):Int)<8:=by omega
     obtain ⟨HG,ga,gb,gc,gR,HB⟩:=hrel.out
     have haw:=hid (ha.out.keep HB)
     have hbw:=hid (hb.out.keep HB)
     have hcw:=hid (hc.out.keep HB)
     have hl3:=Al' gR
     have hwk:IntKind.i64.wrap (((k:Nat):Int)+1)=((k:Nat):Int)+1:=by
       unfold IntKind.wrap
       simp [IntKind.bits,IntKind.signed]
       omega
     obtain ⟨x,ex⟩:=eY (BS k 0 a0 a1)
     obtain ⟨y,ey⟩:=eY (BS k 1 m0 m1)
     obtain ⟨z,ez⟩:=eY (BS k 2 c0 c1)
     have mx:x∈[a0,a1]:=by rw [←ex];exact DF ..
     have my:y∈[m0,m1]:=by rw [←ey];exact DF ..
     have mz:z∈[c0,c1]:=by rw [←ez];exact DF ..
     obtain ⟨f,ef⟩:=eY (F x y z)
     have hstep:=Gk' F a0 a1 m0 m1 c0 c1 k
     rw [ex,ey,ez,ef] at hstep
     replace HG:=hid HG
     replace ga:=hid ga
     replace gb:=hid gb
     replace gc:=hid gc
     replace gR:=hid gR
     replace HB:=hid HB
     replace ex:=hid ex
     replace ey:=hid ey
     replace ez:=hid ez
     replace mx:=hid mx
     replace my:=hid my
     replace mz:=hid mz
     replace ef:=hid ef
     replace hstep:=hid hstep
     replace hrel:=hid hrel
     clear hrel
     go_upto_region 6 with fail
     obtain ⟨w91,hw91⟩:=eX (wr.alloc (.cells #[.int .i64 ((k:Nat):Int)] 3))
     have b91:=hid (AO' hw91)
     have LK:=hid (AR' hw91)
     rw [←hw91]
     clear hw91
     go_wp2_with fail
     obtain ⟨z_a_0,z_a_1,z_a_2,z_a_3,z_a_4,z_a_5⟩:=Aj (Ab' ga.out b91.out)
     have hqr_a:w.heap.size<w91.heap.size:=bL _ _ z_a_0
     obtain ⟨z_b_0,z_b_1,z_b_2,z_b_3,z_b_4,z_b_5⟩:=Aj (Ab' gb.out b91.out)
     have hqr_b:w.heap.size+1<w91.heap.size:=bL _ _ z_b_0
     obtain ⟨z_c_0,z_c_1,z_c_2,z_c_3,z_c_4,z_c_5⟩:=Aj (Ab' gc.out b91.out)
     have hqr_c:w.heap.size+2<w91.heap.size:=bL _ _ z_c_0
     refine wp_region_held_drew (S:=(fun w'=>(w'.cell? ⟨w.heap.size,0,none⟩=w91.cell? ⟨w.heap.size,0,none⟩∧w'.cell? ⟨w.heap.size,1,none⟩=w91.cell? ⟨w.heap.size,1,none⟩∧w'.cell? ⟨w.heap.size,2,none⟩=w91.cell? ⟨w.heap.size,2,none⟩∧w'.cell? ⟨w.heap.size,3,none⟩=w91.cell? ⟨w.heap.size,3,none⟩∧w'.cell? ⟨w.heap.size,4,none⟩=w91.cell? ⟨w.heap.size,4,none⟩∧w'.cell? ⟨w.heap.size,5,none⟩=w91.cell? ⟨w.heap.size,5,none⟩∧w'.cell? ⟨w.heap.size+1,0,none⟩=w91.cell? ⟨w.heap.size+1,0,none⟩∧w'.cell? ⟨w.heap.size+1,1,none⟩=w91.cell? ⟨w.heap.size+1,1,none⟩∧w'.cell? ⟨w.heap.size+1,2,none⟩=w91.cell? ⟨w.heap.size+1,2,none⟩∧w'.cell? ⟨w.heap.size+1,3,none⟩=w91.cell? ⟨w.heap.size+1,3,none⟩∧w'.cell? ⟨w.heap.size+1,4,none⟩=w91.cell? ⟨w.heap.size+1,4,none⟩∧w'.cell? ⟨w.heap.size+1,5,none⟩=w91.cell? ⟨w.heap.size+1,5,none⟩∧w'.cell? ⟨w.heap.size+2,0,none⟩=w91.cell? ⟨w.heap.size+2,0,none⟩∧w'.cell? ⟨w.heap.size+2,1,none⟩=w91.cell? ⟨w.heap.size+2,1,none⟩∧w'.cell? ⟨w.heap.size+2,2,none⟩=w91.cell? ⟨w.heap.size+2,2,none⟩∧w'.cell? ⟨w.heap.size+2,3,none⟩=w91.cell? ⟨w.heap.size+2,3,none⟩∧w'.cell? ⟨w.heap.size+2,4,none⟩=w91.cell? ⟨w.heap.size+2,4,none⟩∧w'.cell? ⟨w.heap.size+2,5,none⟩=w91.cell? ⟨w.heap.size+2,5,none⟩))) (by kernel_rfl) ?_ (fun hHeld=>?_)
     · (try dsimp only)
       exact ⟨rfl,rfl,rfl,rfl,rfl,rfl,rfl,rfl,rfl,rfl,rfl,rfl,rfl,rfl,rfl,rfl,rfl,rfl⟩
     obtain ⟨w92,hw92⟩:=eX w91.drew
     have b92:Hid (Below w91.heap.size w91 w92):=by rw [hw92];exact ⟨rfl,rfl,rfl,nL _,fun _ _=>rfl⟩
     rw [←hw92] at hHeld ⊢
     clear hw92
     refine tk (i:=0) (h:=?_)
     try simp only [Act.put,lt,ly,lu]
     refine tk (i:=1) (h:=?_)
     try simp only [Act.put,lt,ly,lu]
     refine tk (i:=2) (h:=?_)
     try simp only [Act.put,lt,ly,lu]
     refine tk (i:=3) (h:=?_)
     try simp only [Act.put,lt,ly,lu]
     refine tk (i:=5) (h:=?_)
     try simp only [Act.put,lt,ly,lu]
     refine tk (i:=6) (h:=?_)
     try simp only [Act.put,lt,ly,lu]
     refine tk (i:=8) (h:=?_)
     try simp only [Act.put,lt,ly,lu]
     refine tk (i:=9) (h:=?_)
     try simp only [Act.put,lt,ly,lu]
     have y90_92:=hid (bS b91.out b92.out)
     refine rdz (i:=4) (h:=fun K hK=>?_);go_simp;go_at_call 138
     refine (Ek (p:=0) rfl ex.out (haw.out.keep y90_92.out) (Ab' LK.out b92.out) hkn (by omega) sa.out.1 sa.out.2).mono ?_
     rintro e w93 ⟨v93,rfl,hv93,b93⟩
     obtain ⟨C91,j91,C92,j92,rfl,-,-⟩:=id hv93.opened
     replace hv93:=hid hv93
     replace b93:=hid b93
     have y91_93:=hid (bS b92.out b93.out)
     have hS:=y91_93.out
     clear hHeld
     refine hK.out _ _ ?_ (fun hHeld=>?_)
     · (try dsimp only)
       exact ⟨hS.cell (p:=⟨w.heap.size,0,none⟩) hqr_a,hS.cell (p:=⟨w.heap.size,1,none⟩) hqr_a,hS.cell (p:=⟨w.heap.size,2,none⟩) hqr_a,hS.cell (p:=⟨w.heap.size,3,none⟩) hqr_a,hS.cell (p:=⟨w.heap.size,4,none⟩) hqr_a,hS.cell (p:=⟨w.heap.size,5,none⟩) hqr_a,hS.cell (p:=⟨w.heap.size+1,0,none⟩) hqr_b,hS.cell (p:=⟨w.heap.size+1,1,none⟩) hqr_b,hS.cell (p:=⟨w.heap.size+1,2,none⟩) hqr_b,hS.cell (p:=⟨w.heap.size+1,3,none⟩) hqr_b,hS.cell (p:=⟨w.heap.size+1,4,none⟩) hqr_b,hS.cell (p:=⟨w.heap.size+1,5,none⟩) hqr_b,hS.cell (p:=⟨w.heap.size+2,0,none⟩) hqr_c,hS.cell (p:=⟨w.heap.size+2,1,none⟩) hqr_c,hS.cell (p:=⟨w.heap.size+2,2,none⟩) hqr_c,hS.cell (p:=⟨w.heap.size+2,3,none⟩) hqr_c,hS.cell (p:=⟨w.heap.size+2,4,none⟩) hqr_c,hS.cell (p:=⟨w.heap.size+2,5,none⟩) hqr_c⟩
     clear hK K hS;try simp only [Act.put,lt,ly,lu]
     have y90_93:=hid (bS y90_92.out b93.out)
     refine rdz (i:=7) (h:=fun K hK=>?_);go_simp;go_at_call 138
     refine (Ek (p:=1) rfl ey.out (hbw.out.keep y90_93.out) (Ab' LK.out y91_93.out) hkn (by omega) sb.out.1 sb.out.2).mono ?_
     rintro e w94 ⟨v94,rfl,hv94,b94⟩
     obtain ⟨C93,j93,C94,j94,rfl,-,-⟩:=id hv94.opened
     replace hv94:=hid hv94
     replace b94:=hid b94
     have y91_94:=hid (bS y91_93.out b94.out)
     have hS:=y91_94.out
     clear hHeld
     refine hK.out _ _ ?_ (fun hHeld=>?_)
     · (try dsimp only)
       exact ⟨hS.cell (p:=⟨w.heap.size,0,none⟩) hqr_a,hS.cell (p:=⟨w.heap.size,1,none⟩) hqr_a,hS.cell (p:=⟨w.heap.size,2,none⟩) hqr_a,hS.cell (p:=⟨w.heap.size,3,none⟩) hqr_a,hS.cell (p:=⟨w.heap.size,4,none⟩) hqr_a,hS.cell (p:=⟨w.heap.size,5,none⟩) hqr_a,hS.cell (p:=⟨w.heap.size+1,0,none⟩) hqr_b,hS.cell (p:=⟨w.heap.size+1,1,none⟩) hqr_b,hS.cell (p:=⟨w.heap.size+1,2,none⟩) hqr_b,hS.cell (p:=⟨w.heap.size+1,3,none⟩) hqr_b,hS.cell (p:=⟨w.heap.size+1,4,none⟩) hqr_b,hS.cell (p:=⟨w.heap.size+1,5,none⟩) hqr_b,hS.cell (p:=⟨w.heap.size+2,0,none⟩) hqr_c,hS.cell (p:=⟨w.heap.size+2,1,none⟩) hqr_c,hS.cell (p:=⟨w.heap.size+2,2,none⟩) hqr_c,hS.cell (p:=⟨w.heap.size+2,3,none⟩) hqr_c,hS.cell (p:=⟨w.heap.size+2,4,none⟩) hqr_c,hS.cell (p:=⟨w.heap.size+2,5,none⟩) hqr_c⟩
     clear hK K hS;try simp only [Act.put,lt,ly,lu]
     have y90_94:=hid (bS y90_93.out b94.out)
     refine rdz (i:=10) (h:=fun K hK=>?_);go_simp;go_at_call 138
     refine (Ek (p:=2) rfl ez.out (hcw.out.keep y90_94.out) (Ab' LK.out y91_94.out) hkn (by omega) sc.out.1 sc.out.2).mono ?_
     rintro e w95 ⟨v95,rfl,hv95,b95⟩
     obtain ⟨C95,j95,C96,j96,rfl,-,-⟩:=id hv95.opened
     replace hv95:=hid hv95
     replace b95:=hid b95
     have y91_95:=hid (bS y91_94.out b95.out)
     have hS:=y91_95.out
     clear hHeld
     refine hK.out _ _ ?_ (fun hHeld=>?_)
     · (try dsimp only)
       exact ⟨hS.cell (p:=⟨w.heap.size,0,none⟩) hqr_a,hS.cell (p:=⟨w.heap.size,1,none⟩) hqr_a,hS.cell (p:=⟨w.heap.size,2,none⟩) hqr_a,hS.cell (p:=⟨w.heap.size,3,none⟩) hqr_a,hS.cell (p:=⟨w.heap.size,4,none⟩) hqr_a,hS.cell (p:=⟨w.heap.size,5,none⟩) hqr_a,hS.cell (p:=⟨w.heap.size+1,0,none⟩) hqr_b,hS.cell (p:=⟨w.heap.size+1,1,none⟩) hqr_b,hS.cell (p:=⟨w.heap.size+1,2,none⟩) hqr_b,hS.cell (p:=⟨w.heap.size+1,3,none⟩) hqr_b,hS.cell (p:=⟨w.heap.size+1,4,none⟩) hqr_b,hS.cell (p:=⟨w.heap.size+1,5,none⟩) hqr_b,hS.cell (p:=⟨w.heap.size+2,0,none⟩) hqr_c,hS.cell (p:=⟨w.heap.size+2,1,none⟩) hqr_c,hS.cell (p:=⟨w.heap.size+2,2,none⟩) hqr_c,hS.cell (p:=⟨w.heap.size+2,3,none⟩) hqr_c,hS.cell (p:=⟨w.heap.size+2,4,none⟩) hqr_c,hS.cell (p:=⟨w.heap.size+2,5,none⟩) hqr_c⟩
     clear hK K hS;try simp only [Act.put,lt,ly,lu]
     have y90_95:=hid (bS y90_94.out b95.out)
     have y93_95:=hid (bS b94.out b95.out)
     refine rdz (i:=11) (h:=fun K hK=>?_)
     go_simp
     rw [hE.out]
     refine (hF.out _ _ _ _ _ _ _ (bS HB.out y90_95.out) mx.out my.out mz.out (hv93.out.keep y93_95.out) (hv94.out.keep b95.out) hv95.out).mono ?_
     rw [ef.out]
     rintro e w96 ⟨v96,rfl,hv96,b96⟩
     obtain ⟨C97,j97,C98,j98,rfl,-,-⟩:=id hv96.opened
     replace hv96:=hid hv96
     replace b96:=hid b96
     have y91_96:=hid (bS y91_95.out b96.out)
     have hS:=y91_96.out
     clear hHeld
     refine hK.out _ _ ?_ (fun hHeld=>?_)
     · (try dsimp only)
       exact ⟨hS.cell (p:=⟨w.heap.size,0,none⟩) hqr_a,hS.cell (p:=⟨w.heap.size,1,none⟩) hqr_a,hS.cell (p:=⟨w.heap.size,2,none⟩) hqr_a,hS.cell (p:=⟨w.heap.size,3,none⟩) hqr_a,hS.cell (p:=⟨w.heap.size,4,none⟩) hqr_a,hS.cell (p:=⟨w.heap.size,5,none⟩) hqr_a,hS.cell (p:=⟨w.heap.size+1,0,none⟩) hqr_b,hS.cell (p:=⟨w.heap.size+1,1,none⟩) hqr_b,hS.cell (p:=⟨w.heap.size+1,2,none⟩) hqr_b,hS.cell (p:=⟨w.heap.size+1,3,none⟩) hqr_b,hS.cell (p:=⟨w.heap.size+1,4,none⟩) hqr_b,hS.cell (p:=⟨w.heap.size+1,5,none⟩) hqr_b,hS.cell (p:=⟨w.heap.size+2,0,none⟩) hqr_c,hS.cell (p:=⟨w.heap.size+2,1,none⟩) hqr_c,hS.cell (p:=⟨w.heap.size+2,2,none⟩) hqr_c,hS.cell (p:=⟨w.heap.size+2,3,none⟩) hqr_c,hS.cell (p:=⟨w.heap.size+2,4,none⟩) hqr_c,hS.cell (p:=⟨w.heap.size+2,5,none⟩) hqr_c⟩
     clear hK K hS;try simp only [Act.put,lt,ly,lu]
     refine wpAnyH_ready (rs:=[12]) (by kernel_rfl) (by simp) (AllReadyH.cons (o:=?oq5) ?eq5 ?kq5 AllReadyH.nil)
     case eq5=>simp only [lg,lz,ls];rfl
     intro K hK;go_simp
     obtain ⟨w97,hw97⟩:=eX (w96.alloc (.cells #[.bool (decide (f.num<0)),.slice C97 (Vx.len f.num.natAbs) j97,.slice C98 (Vx.len (below f.den)) j98] 35))
     have b97:=hid (AO' hw97)
     have Lv:=hid (AR' hw97)
     rw [←hw97]
     clear hw97
     have y91_97:=hid (bS y91_96.out b97.out)
     have y90_97:=hid (bS (bS y90_95.out b96.out) b97.out)
     have hS:=y91_97.out
     clear hHeld
     refine hK.out _ _ ?_ (fun hHeld=>?_)
     · (try dsimp only)
       exact ⟨hS.cell (p:=⟨w.heap.size,0,none⟩) hqr_a,hS.cell (p:=⟨w.heap.size,1,none⟩) hqr_a,hS.cell (p:=⟨w.heap.size,2,none⟩) hqr_a,hS.cell (p:=⟨w.heap.size,3,none⟩) hqr_a,hS.cell (p:=⟨w.heap.size,4,none⟩) hqr_a,hS.cell (p:=⟨w.heap.size,5,none⟩) hqr_a,hS.cell (p:=⟨w.heap.size+1,0,none⟩) hqr_b,hS.cell (p:=⟨w.heap.size+1,1,none⟩) hqr_b,hS.cell (p:=⟨w.heap.size+1,2,none⟩) hqr_b,hS.cell (p:=⟨w.heap.size+1,3,none⟩) hqr_b,hS.cell (p:=⟨w.heap.size+1,4,none⟩) hqr_b,hS.cell (p:=⟨w.heap.size+1,5,none⟩) hqr_b,hS.cell (p:=⟨w.heap.size+2,0,none⟩) hqr_c,hS.cell (p:=⟨w.heap.size+2,1,none⟩) hqr_c,hS.cell (p:=⟨w.heap.size+2,2,none⟩) hqr_c,hS.cell (p:=⟨w.heap.size+2,3,none⟩) hqr_c,hS.cell (p:=⟨w.heap.size+2,4,none⟩) hqr_c,hS.cell (p:=⟨w.heap.size+2,5,none⟩) hqr_c⟩
     clear hK K hS
     try simp only [Act.put,lt,ly,lu]
     have hBr:=hid y90_97.out
     have hS2:=hid y91_97.out
     have HG2:=hid (HG.out.keep hBr.out (fun _ _ h=>h.keep hBr.out))
     have HB2:=hid (bS HB.out hBr.out)
     have l56:=hid (show ((Cs' F a0 a1 m0 m1 c0 c1 k).length+1)*56≤140737488355328 by rw [CG'];omega)
     have lM:=hid (show (Cs' F a0 a1 m0 m1 c0 c1 k).length+1≤maxLen by rw [CG'];unfold maxLen;omega)
     have hsz2:=hid (show w.heap.size+4≤w97.heap.size by have:=hBr.out.size;omega)
     have FX:=hid (hv96.out.keep b97.out)
     have ga2:=hid (Ab' ga.out hBr.out)
     have gb2:=hid (Ab' gb.out hBr.out)
     have gc2:=hid (Ab' gc.out hBr.out)
     have gR2:=hid (Ab' gR.out hBr.out)
     refine rdz (i:=13) (h:=fun K hK=>?_)
     refine H4' rfl (e:=35) Tryz.underlying54 FR' FR rfl HG2.out rfl Lv.out FX.out l56.out lM.out hsz2.out ?_
     intro vs2 u2 hG2 LV GR hO
     have e0:u2.heap[w.heap.size]?=w97.heap[w.heap.size]?:=GR.block _ (Al' ga2.out) (fun e=>by have:=(HG2.out.own _ e.symm).1;omega)
     have e1:u2.heap[w.heap.size+1]?=w97.heap[w.heap.size+1]?:=GR.block _ (Al' gb2.out) (fun e=>by have:=(HG2.out.own _ e.symm).1;omega)
     have e2:u2.heap[w.heap.size+2]?=w97.heap[w.heap.size+2]?:=GR.block _ (Al' gc2.out) (fun e=>by have:=(HG2.out.own _ e.symm).1;omega)
     have e3:u2.heap[w.heap.size+3]?=w97.heap[w.heap.size+3]?:=GR.block _ (Al' gR2.out) (fun e=>by have:=(HG2.out.own _ e.symm).1;omega)
     clear hHeld
     refine hK.out _ _ ?_ (fun hHeld=>?_)
     · (try dsimp only)
       exact ⟨(World.cell?_of_block e0).trans (hS2.out.cell (p:=⟨w.heap.size,0,none⟩) hqr_a),(World.cell?_of_block e0).trans (hS2.out.cell (p:=⟨w.heap.size,1,none⟩) hqr_a),(World.cell?_of_block e0).trans (hS2.out.cell (p:=⟨w.heap.size,2,none⟩) hqr_a),(World.cell?_of_block e0).trans (hS2.out.cell (p:=⟨w.heap.size,3,none⟩) hqr_a),(World.cell?_of_block e0).trans (hS2.out.cell (p:=⟨w.heap.size,4,none⟩) hqr_a),(World.cell?_of_block e0).trans (hS2.out.cell (p:=⟨w.heap.size,5,none⟩) hqr_a),(World.cell?_of_block e1).trans (hS2.out.cell (p:=⟨w.heap.size+1,0,none⟩) hqr_b),(World.cell?_of_block e1).trans (hS2.out.cell (p:=⟨w.heap.size+1,1,none⟩) hqr_b),(World.cell?_of_block e1).trans (hS2.out.cell (p:=⟨w.heap.size+1,2,none⟩) hqr_b),(World.cell?_of_block e1).trans (hS2.out.cell (p:=⟨w.heap.size+1,3,none⟩) hqr_b),(World.cell?_of_block e1).trans (hS2.out.cell (p:=⟨w.heap.size+1,4,none⟩) hqr_b),(World.cell?_of_block e1).trans (hS2.out.cell (p:=⟨w.heap.size+1,5,none⟩) hqr_b),(World.cell?_of_block e2).trans (hS2.out.cell (p:=⟨w.heap.size+2,0,none⟩) hqr_c),(World.cell?_of_block e2).trans (hS2.out.cell (p:=⟨w.heap.size+2,1,none⟩) hqr_c),(World.cell?_of_block e2).trans (hS2.out.cell (p:=⟨w.heap.size+2,2,none⟩) hqr_c),(World.cell?_of_block e2).trans (hS2.out.cell (p:=⟨w.heap.size+2,3,none⟩) hqr_c),(World.cell?_of_block e2).trans (hS2.out.cell (p:=⟨w.heap.size+2,4,none⟩) hqr_c),(World.cell?_of_block e2).trans (hS2.out.cell (p:=⟨w.heap.size+2,5,none⟩) hqr_c)⟩
     clear hK K
     try simp only [Act.put,lt,ly,lu]
     rw [hstep.out] at hG2
     have HR2:Hid (Cs w (.cells #[.bool (decide (a0.num<0)),.slice C1 (Vx.len a0.num.natAbs) j1,.slice C2 (Vx.len (below a0.den)) j2,.bool (decide (a1.num<0)),.slice C3 (Vx.len a1.num.natAbs) j3,.slice C4 (Vx.len (below a1.den)) j4] 37 (0,0)) (.cells #[.bool (decide (m0.num<0)),.slice C5 (Vx.len m0.num.natAbs) j5,.slice C6 (Vx.len (below m0.den)) j6,.bool (decide (m1.num<0)),.slice C7 (Vx.len m1.num.natAbs) j7,.slice C8 (Vx.len (below m1.den)) j8] 37 (0,0)) (.cells #[.bool (decide (c0.num<0)),.slice C9 (Vx.len c0.num.natAbs) j9,.slice C10 (Vx.len (below c0.den)) j10,.bool (decide (c1.num<0)),.slice C11 (Vx.len c1.num.natAbs) j11,.slice C12 (Vx.len (below c1.den)) j12] 37 (0,0)) F a0 a1 m0 m1 c0 c1 (k+1) vs2 u2):=hid ⟨Or.inl hG2,e0.trans ga2.out,e1.trans gb2.out,e2.trans gc2.out,e3.trans gR2.out,Below.grown HB2.out GR HB2.out.size (fun j hj=>by have:=(HG2.out.own j hj).1;omega)⟩
     clear hG2 LV GR hO e0 e1 e2 e3
     refine tk (i:=14) (h:=?_)
     try simp only [Act.put,lt,ly,lu]
     refine wpAnyH_done (by kernel_rfl) ?_ _
     go_wp2_with fail
     go_roundw
     case rel=>exact ⟨k+1,hkn,by go_num,HR2⟩
     case measure=>simp [intOf];omega
   · obtain rfl:k=8:=Nat.le_antisymm hk hkn
     obtain ⟨HG,-,-,-,gR,HB⟩:=hrel.out
     have HG':=Or.resolve_right HG (fun h=>by have h3:=congrArg List.length h.2;rw [CG'] at h3;cases h3)
     obtain ⟨g,capg,rfl,hns⟩:=HG'.nums
     rw [CG']
     rw [G6'] at hns
     replace hns:=hid hns
     replace gR:=hid gR
     replace HB:=hid HB
     clear HG HG' hrel
     have HX:=hid (EC (n:=8) (c:=capg) el.out eh.out hns.out rfl (by omega) sF.out)
     go_wp2_with fail
     refine (HX.out).mono ?_
     rintro e w91 ⟨v91,rfl,hv91,b91⟩
     obtain ⟨C91,j91,C92,j92,C93,j93,C94,j94,rfl,-,-,-,-⟩:=id hv91.opened
     replace hv91:=hid hv91
     replace b91:=hid b91
     clear HX
     have DR:=(Ab' gR.out b91.out)
     have q0:w91.cell? ⟨w.heap.size+3,0,none⟩=some (.bool false):=cR _ _ _ _ _ _ DR
     have F0:w91.frozen? ⟨w.heap.size+3,0,none⟩=false:=fR w91 (w.heap.size+3) 0 _ _ DR
     have q1:w91.cell? ⟨w.heap.size+3,1,none⟩=some (.slice none 0 0):=cR _ _ _ _ _ _ DR
     have F1:w91.frozen? ⟨w.heap.size+3,1,none⟩=false:=fR w91 (w.heap.size+3) 1 _ _ DR
     have q2:w91.cell? ⟨w.heap.size+3,2,none⟩=some (.slice none 0 0):=cR _ _ _ _ _ _ DR
     have F2:w91.frozen? ⟨w.heap.size+3,2,none⟩=false:=fR w91 (w.heap.size+3) 2 _ _ DR
     have q3:w91.cell? ⟨w.heap.size+3,3,none⟩=some (.bool false):=cR _ _ _ _ _ _ DR
     have F3:w91.frozen? ⟨w.heap.size+3,3,none⟩=false:=fR w91 (w.heap.size+3) 3 _ _ DR
     have q4:w91.cell? ⟨w.heap.size+3,4,none⟩=some (.slice none 0 0):=cR _ _ _ _ _ _ DR
     have F4:w91.frozen? ⟨w.heap.size+3,4,none⟩=false:=fR w91 (w.heap.size+3) 4 _ _ DR
     have q5:w91.cell? ⟨w.heap.size+3,5,none⟩=some (.slice none 0 0):=cR _ _ _ _ _ _ DR
     have F5:w91.frozen? ⟨w.heap.size+3,5,none⟩=false:=fR w91 (w.heap.size+3) 5 _ _ DR
     have FB:=(bS HB.out b91.out)
     have FV:=hv91.out
     obtain ⟨ue,hw⟩:=eX (((((((w91.setCell ⟨w.heap.size+3,0,none⟩ (.bool (decide (lo.num<0)))).setCell ⟨w.heap.size+3,1,none⟩ (.slice C91 (Vx.len lo.num.natAbs) j91)).setCell ⟨w.heap.size+3,2,none⟩ (.slice C92 (Vx.len (below lo.den)) j92)).setCell ⟨w.heap.size+3,3,none⟩ (.bool (decide (hi.num<0)))).setCell ⟨w.heap.size+3,4,none⟩ (.slice C93 (Vx.len hi.num.natAbs) j93)).setCell ⟨w.heap.size+3,5,none⟩ (.slice C94 (Vx.len (below hi.den)) j94)))
     obtain ⟨E_ue,-,LV,BL⟩:=AF DR hw
     have FE:=hid (LV.box FV)
     replace FB:=hid (BL _ _ (by omega) FB)
     replace E_ue:=hid E_ue
     replace hw:=hid hw
     clear DR FV LV BL
     go_wp2_with fail
     rw [←hw.out]
     obtain ⟨r0,r1,r2,r3,r4,r5⟩:=Aj E_ue.out
     refine bP (v:=.agg #[.bool (decide (lo.num<0)),.slice C91 (Vx.len lo.num.natAbs) j91,.slice C92 (Vx.len (below lo.den)) j92,.bool (decide (hi.num<0)),.slice C93 (Vx.len hi.num.natAbs) j93,.slice C94 (Vx.len (below hi.den)) j94]) ?_ rfl ⟨_,rfl,FE.out,FB.out⟩
     simp [results,Tryz.results107,go_sem,r0,r1,r2,r3,r4,r5]
end Go.Proofs.YtflopjfnppolgaaGreatDoor.Rf
