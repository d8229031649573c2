/-
  Contracts of the functions that the law calls, for every input (Qk Rkd Sqa Sqm).
-/
import Derived.Test.YtcicfnlljdnagaaGreatDoorY00
import Derived.Test.YtcicfnlljdnagaaGreatDoorY34
import Derived.Test.YtcicfnlljdnagaaGreatDoorY43
import Derived.Test.YtcicfnlljdnagaaGreatDoorY30
import Derived.Test.YtcicfnlljdnagaaGreatDoorY36
import Derived.Laws.EntriesVeiled
import Derived.Test.YtcicfnlljdnagaaGreatDoorY42
import Derived.Test.YtcicfnlljdnagaaGreatDoorY32
set_option linter.all false
set_option maxRecDepth 100000
set_option maxHeartbeats 40000000
namespace Go.Proofs.YtcicfnlljdnagaaGreatDoor.Rf
open Lib (hid)
open Go.RowKit
open Rx
open Vx (Ab' Ah Ah')
open List renaming getElem?_toArray → lg, getElem?_cons_zero → lz, getElem?_cons_succ → ls, setIfInBounds_toArray → lt, set_cons_zero → ly, set_cons_succ → lu
theorem CK:Go.Proofs.Enters Tryz.prog 26:=Go.Proofs.enters_of Tryz.func26 (by kernel_rfl) rfl
theorem Fh':Go.Proofs.Enters Tryz.prog 29:=Go.Proofs.enters_of Tryz.func29 (by kernel_rfl) rfl
theorem EY (w:World):Aj w (.agg #[.bool false,.slice none 0 0,.slice none 0 0,.bool false,.slice none 0 0,.slice none 0 0]) 0 0:=Go.Proofs.YtcicfnlljdnagaaGreatDoor.Fg (Bg w) (Bg w)
theorem DD (f l r:Rat):Ab' (Ap' f l r)≤Ab' f+Ab' l+Ab' l+Ab' r+Ab' r+19:=by
 unfold Ap'
 have h1:=Vx.AF' l r
 have h2:=Bs' f l r
 have h3:=Vx.AU (l - r) (divisorQ f l r)
 omega
theorem BH {w:World} {vf vl vr:Value} {f0 f1 l0 l1 r0 r1:Rat} (hf:Aj w vf f0 f1) (hl:Aj w vl l0 l1) (hr:Aj w vr r0 r1) (sf:Ab' f0≤1000000∧Ab' f1≤1000000) (sl:Ab' l0≤1000000∧Ab' l1≤1000000) (sr:Ab' r0≤1000000∧Ab' r1≤1000000) {lo hi:Rat} (h0:¬ (cornLo divisorQ f0 f1 l0 l1 r0 r1≤0∧0≤cornHi divisorQ f0 f1 l0 l1 r0 r1)) (el:cornLo Ap' f0 f1 l0 l1 r0 r1=lo) (eh:cornHi Ap' f0 f1 l0 l1 r0 r1=hi) :
   Calls Tryz.prog 5 #[vf,vl,vr] w (Bw' w lo hi 0):=by
 obtain ⟨t,et⟩:=eY (((2:Int):Rat):Rat)
 have et2:2=t:=et
 have st:Ab' t≤536870912:=by rw [←et];decide
 obtain ⟨dl,edl⟩:=eY (cornLo divisorQ f0 f1 l0 l1 r0 r1:Rat)
 obtain ⟨dh,edh⟩:=eY (cornHi divisorQ f0 f1 l0 l1 r0 r1:Rat)
 rw [edl,edh] at h0
 have sF:∀ q∈divisorQ f0 l0 r0::AY' divisorQ f0 f1 l0 l1 r0 r1,Ab' q≤16777216:=BG' fun x hx y hy z hz=>by
   have h1:=Ap hx sf.1 sf.2
   have h2:=Ap hy sl.1 sl.2
   have h3:=Ap hz sr.1 sr.2
   have:=Bs' x y z
   omega
 have sG:∀ q∈Ap' f0 l0 r0::AY' Ap' f0 f1 l0 l1 r0 r1,Ab' q≤16777216:=BG' fun x hx y hy z hz=>by
   have h1:=Ap hx sf.1 sf.2
   have h2:=Ap hy sl.1 sl.2
   have h3:=Ap hz sr.1 sr.2
   have:=DD x y z
   omega
 have sD:=CD' (F:=divisorQ) (P:=fun q=>Ab' q≤34359738368) (a0:=f0) (a1:=f1) (b0:=l0) (b1:=l1) (c0:=r0) (c1:=r1) (fun x hx y hy z hz=>by
   have h1:=Ap hx sf.1 sf.2
   have h2:=Ap hy sl.1 sl.2
   have h3:=Ap hz sr.1 sr.2
   have:=Bs' x y z
   show Ab' _≤_
   omega)
 rw [edl,edh] at sD
 have sf':Ab' f0≤16777216∧Ab' f1≤16777216:=⟨by omega,by omega⟩
 have sl':Ab' l0≤16777216∧Ab' l1≤16777216:=⟨by omega,by omega⟩
 have sr':Ab' r0≤16777216∧Ab' r1≤16777216:=⟨by omega,by omega⟩
 have dz:decide (dl≤0∧0≤dh)=false:=dF_ h0
 replace et:=hid et
 replace et2:=hid et2
 replace st:=hid st
 replace edl:=hid edl
 replace edh:=hid edh
 replace sF:=hid sF
 replace sG:=hid sG
 replace sD:=hid sD
 replace sf':=hid sf'
 replace sl':=hid sl'
 replace sr':=hid sr'
 replace dz:=hid dz
 replace h0:=hid h0
 replace el:=hid el
 replace eh:=hid eh
 obtain ⟨C1,j1,C2,j2,C3,j3,C4,j4,rfl,-,-⟩:=id hf.opened
 replace hf:=hid hf
 obtain ⟨C5,j5,C6,j6,C7,j7,C8,j8,rfl,-,-⟩:=id hl.opened
 replace hl:=hid hl
 obtain ⟨C9,j9,C10,j10,C11,j11,C12,j12,rfl,-,-⟩:=id hr.opened
 replace hr:=hid hr
 obtain ⟨w1,hw1⟩:=eX (((((w.alloc (.cells #[.bool (decide (f0.num<0)),.slice C1 (Vx.len f0.num.natAbs) j1,.slice C2 (Vx.len (below f0.den)) j2,.bool (decide (f1.num<0)),.slice C3 (Vx.len f1.num.natAbs) j3,.slice C4 (Vx.len (below f1.den)) j4] 34)).alloc (.cells #[.bool (decide (l0.num<0)),.slice C5 (Vx.len l0.num.natAbs) j5,.slice C6 (Vx.len (below l0.den)) j6,.bool (decide (l1.num<0)),.slice C7 (Vx.len l1.num.natAbs) j7,.slice C8 (Vx.len (below l1.den)) j8] 34)).alloc (.cells #[.bool (decide (r0.num<0)),.slice C9 (Vx.len r0.num.natAbs) j9,.slice C10 (Vx.len (below r0.den)) j10,.bool (decide (r1.num<0)),.slice C11 (Vx.len r1.num.natAbs) j11,.slice C12 (Vx.len (below r1.den)) j12] 34)).alloc (.cells #[.bool false,.slice none 0 0,.slice none 0 0,.bool false,.slice none 0 0,.slice none 0 0] 34)))
 obtain ⟨b1,g1,g2,g3,g4⟩:=Cm w (.cells #[.bool (decide (f0.num<0)),.slice C1 (Vx.len f0.num.natAbs) j1,.slice C2 (Vx.len (below f0.den)) j2,.bool (decide (f1.num<0)),.slice C3 (Vx.len f1.num.natAbs) j3,.slice C4 (Vx.len (below f1.den)) j4] 34) (.cells #[.bool (decide (l0.num<0)),.slice C5 (Vx.len l0.num.natAbs) j5,.slice C6 (Vx.len (below l0.den)) j6,.bool (decide (l1.num<0)),.slice C7 (Vx.len l1.num.natAbs) j7,.slice C8 (Vx.len (below l1.den)) j8] 34) (.cells #[.bool (decide (r0.num<0)),.slice C9 (Vx.len r0.num.natAbs) j9,.slice C10 (Vx.len (below r0.den)) j10,.bool (decide (r1.num<0)),.slice C11 (Vx.len r1.num.natAbs) j11,.slice C12 (Vx.len (below r1.den)) j12] 34) (.cells #[.bool false,.slice none 0 0,.slice none 0 0,.bool false,.slice none 0 0,.slice none 0 0] 34)
 rw [←hw1] at b1 g1 g2 g3 g4
 replace g1:=hid g1
 replace g2:=hid g2
 replace g3:=hid g3
 replace g4:=hid g4
 replace b1:=hid b1
 go_enter Tryz.func5,Tryz.ntmps5
 go_upto_region 1 with fail
 rw [←hw1]
 clear hw1
 have HX:=hid (Ay' (w:=w1) et.out (by omega) (by omega))
 go_wp2_with fail
 refine (HX.out).mono ?_
 rintro e w2 ⟨v2,rfl,hv2,b2⟩
 obtain ⟨C13,j13,C14,j14,rfl,-,-⟩:=id hv2.opened
 replace hv2:=hid hv2
 replace b2:=hid b2
 clear HX
 go_upto_region 2 with fail
 obtain ⟨w3,hw3⟩:=eX (w2.alloc (.cells #[.bool (decide (t.num<0)),.slice C13 (Vx.len t.num.natAbs) j13,.slice C14 (Vx.len (below t.den)) j14] 32))
 have b3:=hid (Ar hw3)
 have L3:=hid (At' hw3)
 rw [←hw3]
 clear hw3
 go_upto_region 3 with fail
 obtain ⟨w4,hw4⟩:=eX (w3.alloc (.cells #[.func (.func 26) #[] #[.pointer (some ⟨w2.heap.size,0,none⟩)]] 66))
 have b4:=hid (Ar hw4)
 have LD:=hid (At' hw4)
 rw [←hw4]
 clear hw4
 have zd:=cR _ _ 0 _ _ _ LD.out
 simp only [lg,lz] at zd
 have y1_4:=hid (bS (bS b2.out b3.out) b4.out)
 obtain ⟨z_f_0,z_f_1,z_f_2,z_f_3,z_f_4,z_f_5⟩:=Af (Ac' g1.out y1_4.out)
 obtain ⟨z_l_0,z_l_1,z_l_2,z_l_3,z_l_4,z_l_5⟩:=Af (Ac' g2.out y1_4.out)
 obtain ⟨z_r_0,z_r_1,z_r_2,z_r_3,z_r_4,z_r_5⟩:=Af (Ac' g3.out y1_4.out)
 have y2_4:=hid (bS b3.out b4.out)
 have y0_4:=hid (bS (bS (bS b1.out b2.out) b3.out) b4.out)
 have HX:=hid (BM (F:=divisorQ) (fn:=26) (cap:=#[.pointer (some ⟨w2.heap.size,0,none⟩)]) CK (fun u vx vy vz x y z hb mx my mz i j k=>CE i j k (Ap mx sf'.out.1 sf'.out.2) (Ap my sl'.out.1 sl'.out.2) (Ap mz sr'.out.1 sr'.out.2) (Ac' (Ac' L3.out b4.out) (hb)) ((hv2.out.keep y2_4.out).keep hb) et2.out) (hf.out.keep y0_4.out) (hl.out.keep y0_4.out) (hr.out.keep y0_4.out) sf'.out sl'.out sr'.out sF.out edl.out edh.out)
 go_wp2_with fail
 refine (HX.out).mono ?_
 rintro e w5 ⟨v5,rfl,hv5,b5⟩
 obtain ⟨C15,j15,C16,j16,C17,j17,C18,j18,rfl,-,-,-,-⟩:=id hv5.opened
 replace hv5:=hid hv5
 replace b5:=hid b5
 clear HX
 have HX:=hid ((show Calls _ _ _ _ (BF _ false) from dz.out ▸ Cl hv5.out (Bg w5) sD.out.1 sD.out.2 (by decide)))
 go_wp2_with fail
 refine (HX.out).mono ?_
 rintro e w6 ⟨rfl,b6⟩
 replace b6:=hid b6
 clear HX
 have y4_6:=hid (bS b5.out b6.out)
 have zd:=cR _ _ 0 _ _ _ (Ac' LD.out y4_6.out)
 simp only [lg,lz] at zd
 have y1_6:=hid (bS (bS y1_4.out b5.out) b6.out)
 obtain ⟨z_f_0,z_f_1,z_f_2,z_f_3,z_f_4,z_f_5⟩:=Af (Ac' g1.out y1_6.out)
 obtain ⟨z_l_0,z_l_1,z_l_2,z_l_3,z_l_4,z_l_5⟩:=Af (Ac' g2.out y1_6.out)
 obtain ⟨z_r_0,z_r_1,z_r_2,z_r_3,z_r_4,z_r_5⟩:=Af (Ac' g3.out y1_6.out)
 have y3_6:=hid (bS (bS b4.out b5.out) b6.out)
 have y2_6:=hid (bS (bS y2_4.out b5.out) b6.out)
 have y0_6:=hid (bS (bS y0_4.out b5.out) b6.out)
 have HX:=hid (BM (F:=Ap') (fn:=29) (cap:=#[.pointer (some ⟨w3.heap.size,0,none⟩)]) Fh' (fun u vx vy vz x y z hb mx my mz i j k=>DT i j k (Ap mx sf'.out.1 sf'.out.2) (Ap my sl'.out.1 sl'.out.2) (Ap mz sr'.out.1 sr'.out.2) (Ac' (Ac' L3.out y3_6.out) hb) ((hv2.out.keep y2_6.out).keep hb) et2.out (Ac' (Ac' LD.out y4_6.out) hb)) (hf.out.keep y0_6.out) (hl.out.keep y0_6.out) (hr.out.keep y0_6.out) sf'.out sl'.out sr'.out sG.out el.out eh.out)
 go_wp2_with fail
 refine (HX.out).mono ?_
 rintro e w7 ⟨v7,rfl,hv7,b7⟩
 obtain ⟨C19,j19,C20,j20,C21,j21,C22,j22,rfl,-,-,-,-⟩:=id hv7.opened
 replace hv7:=hid hv7
 replace b7:=hid b7
 clear HX
 have y1_7:=hid (bS y1_6.out b7.out)
 have DR:=(Ac' g4.out y1_7.out)
 have q0:w7.cell? ⟨w.heap.size+3,0,none⟩=some (.bool false):=cR _ _ _ _ _ _ DR
 have F0:w7.frozen? ⟨w.heap.size+3,0,none⟩=false:=fR w7 (w.heap.size+3) 0 _ _ DR
 have q1:w7.cell? ⟨w.heap.size+3,1,none⟩=some (.slice none 0 0):=cR _ _ _ _ _ _ DR
 have F1:w7.frozen? ⟨w.heap.size+3,1,none⟩=false:=fR w7 (w.heap.size+3) 1 _ _ DR
 have q2:w7.cell? ⟨w.heap.size+3,2,none⟩=some (.slice none 0 0):=cR _ _ _ _ _ _ DR
 have F2:w7.frozen? ⟨w.heap.size+3,2,none⟩=false:=fR w7 (w.heap.size+3) 2 _ _ DR
 have q3:w7.cell? ⟨w.heap.size+3,3,none⟩=some (.bool false):=cR _ _ _ _ _ _ DR
 have F3:w7.frozen? ⟨w.heap.size+3,3,none⟩=false:=fR w7 (w.heap.size+3) 3 _ _ DR
 have q4:w7.cell? ⟨w.heap.size+3,4,none⟩=some (.slice none 0 0):=cR _ _ _ _ _ _ DR
 have F4:w7.frozen? ⟨w.heap.size+3,4,none⟩=false:=fR w7 (w.heap.size+3) 4 _ _ DR
 have q5:w7.cell? ⟨w.heap.size+3,5,none⟩=some (.slice none 0 0):=cR _ _ _ _ _ _ DR
 have F5:w7.frozen? ⟨w.heap.size+3,5,none⟩=false:=fR w7 (w.heap.size+3) 5 _ _ DR
 have y0_7:=hid (bS y0_6.out b7.out)
 have FB:=y0_7.out
 have FV:=hv7.out
 obtain ⟨ue,hw⟩:=eX (((((((w7.setCell ⟨w.heap.size+3,0,none⟩ (.bool (decide (lo.num<0)))).setCell ⟨w.heap.size+3,1,none⟩ (.slice C19 (Vx.len lo.num.natAbs) j19)).setCell ⟨w.heap.size+3,2,none⟩ (.slice C20 (Vx.len (below lo.den)) j20)).setCell ⟨w.heap.size+3,3,none⟩ (.bool (decide (hi.num<0)))).setCell ⟨w.heap.size+3,4,none⟩ (.slice C21 (Vx.len hi.num.natAbs) j21)).setCell ⟨w.heap.size+3,5,none⟩ (.slice C22 (Vx.len (below hi.den)) j22)))
 obtain ⟨E_ue,-,LV,BL⟩:=Av DR hw
 have FE:=hid (LV.box FV)
 replace FB:=hid (BL _ _ (by omega) FB)
 replace E_ue:=hid E_ue
 replace hw:=hid hw
 clear DR FV LV BL
 go_wp2_with fail
 rw [←hw.out]
 obtain ⟨r0,r1,r2,r3,r4,r5⟩:=Af E_ue.out
 refine bP (v:=.tuple #[.agg #[.bool (decide (lo.num<0)),.slice C19 (Vx.len lo.num.natAbs) j19,.slice C20 (Vx.len (below lo.den)) j20,.bool (decide (hi.num<0)),.slice C21 (Vx.len hi.num.natAbs) j21,.slice C22 (Vx.len (below hi.den)) j22],.int .i64 0]) ?_ rfl ⟨_,rfl,FE.out,FB.out⟩
 simp [results,Tryz.results5,go_sem,r0,r1,r2,r3,r4,r5]
theorem Dn' {w:World} {vf vl vr:Value} {f0 f1 l0 l1 r0 r1:Rat} (hf:Aj w vf f0 f1) (hl:Aj w vl l0 l1) (hr:Aj w vr r0 r1) (sf:Ab' f0≤1000000∧Ab' f1≤1000000) (sl:Ab' l0≤1000000∧Ab' l1≤1000000) (sr:Ab' r0≤1000000∧Ab' r1≤1000000) (h0:(cornLo divisorQ f0 f1 l0 l1 r0 r1≤0∧0≤cornHi divisorQ f0 f1 l0 l1 r0 r1)) :
   Calls Tryz.prog 5 #[vf,vl,vr] w (Bw' w 0 0 42):=by
 obtain ⟨t,et⟩:=eY (((2:Int):Rat):Rat)
 have et2:2=t:=et
 have st:Ab' t≤536870912:=by rw [←et];decide
 obtain ⟨dl,edl⟩:=eY (cornLo divisorQ f0 f1 l0 l1 r0 r1:Rat)
 obtain ⟨dh,edh⟩:=eY (cornHi divisorQ f0 f1 l0 l1 r0 r1:Rat)
 rw [edl,edh] at h0
 have sF:∀ q∈divisorQ f0 l0 r0::AY' divisorQ f0 f1 l0 l1 r0 r1,Ab' q≤16777216:=BG' fun x hx y hy z hz=>by
   have h1:=Ap hx sf.1 sf.2
   have h2:=Ap hy sl.1 sl.2
   have h3:=Ap hz sr.1 sr.2
   have:=Bs' x y z
   omega
 have sG:∀ q∈Ap' f0 l0 r0::AY' Ap' f0 f1 l0 l1 r0 r1,Ab' q≤16777216:=BG' fun x hx y hy z hz=>by
   have h1:=Ap hx sf.1 sf.2
   have h2:=Ap hy sl.1 sl.2
   have h3:=Ap hz sr.1 sr.2
   have:=DD x y z
   omega
 have sD:=CD' (F:=divisorQ) (P:=fun q=>Ab' q≤34359738368) (a0:=f0) (a1:=f1) (b0:=l0) (b1:=l1) (c0:=r0) (c1:=r1) (fun x hx y hy z hz=>by
   have h1:=Ap hx sf.1 sf.2
   have h2:=Ap hy sl.1 sl.2
   have h3:=Ap hz sr.1 sr.2
   have:=Bs' x y z
   show Ab' _≤_
   omega)
 rw [edl,edh] at sD
 have sf':Ab' f0≤16777216∧Ab' f1≤16777216:=⟨by omega,by omega⟩
 have sl':Ab' l0≤16777216∧Ab' l1≤16777216:=⟨by omega,by omega⟩
 have sr':Ab' r0≤16777216∧Ab' r1≤16777216:=⟨by omega,by omega⟩
 have dz:decide (dl≤0∧0≤dh)=true:=dT_ h0
 replace et:=hid et
 replace et2:=hid et2
 replace st:=hid st
 replace edl:=hid edl
 replace edh:=hid edh
 replace sF:=hid sF
 replace sG:=hid sG
 replace sD:=hid sD
 replace sf':=hid sf'
 replace sl':=hid sl'
 replace sr':=hid sr'
 replace dz:=hid dz
 replace h0:=hid h0
 obtain ⟨C1,j1,C2,j2,C3,j3,C4,j4,rfl,-,-⟩:=id hf.opened
 replace hf:=hid hf
 obtain ⟨C5,j5,C6,j6,C7,j7,C8,j8,rfl,-,-⟩:=id hl.opened
 replace hl:=hid hl
 obtain ⟨C9,j9,C10,j10,C11,j11,C12,j12,rfl,-,-⟩:=id hr.opened
 replace hr:=hid hr
 obtain ⟨w1,hw1⟩:=eX (((((w.alloc (.cells #[.bool (decide (f0.num<0)),.slice C1 (Vx.len f0.num.natAbs) j1,.slice C2 (Vx.len (below f0.den)) j2,.bool (decide (f1.num<0)),.slice C3 (Vx.len f1.num.natAbs) j3,.slice C4 (Vx.len (below f1.den)) j4] 34)).alloc (.cells #[.bool (decide (l0.num<0)),.slice C5 (Vx.len l0.num.natAbs) j5,.slice C6 (Vx.len (below l0.den)) j6,.bool (decide (l1.num<0)),.slice C7 (Vx.len l1.num.natAbs) j7,.slice C8 (Vx.len (below l1.den)) j8] 34)).alloc (.cells #[.bool (decide (r0.num<0)),.slice C9 (Vx.len r0.num.natAbs) j9,.slice C10 (Vx.len (below r0.den)) j10,.bool (decide (r1.num<0)),.slice C11 (Vx.len r1.num.natAbs) j11,.slice C12 (Vx.len (below r1.den)) j12] 34)).alloc (.cells #[.bool false,.slice none 0 0,.slice none 0 0,.bool false,.slice none 0 0,.slice none 0 0] 34)))
 obtain ⟨b1,g1,g2,g3,g4⟩:=Cm w (.cells #[.bool (decide (f0.num<0)),.slice C1 (Vx.len f0.num.natAbs) j1,.slice C2 (Vx.len (below f0.den)) j2,.bool (decide (f1.num<0)),.slice C3 (Vx.len f1.num.natAbs) j3,.slice C4 (Vx.len (below f1.den)) j4] 34) (.cells #[.bool (decide (l0.num<0)),.slice C5 (Vx.len l0.num.natAbs) j5,.slice C6 (Vx.len (below l0.den)) j6,.bool (decide (l1.num<0)),.slice C7 (Vx.len l1.num.natAbs) j7,.slice C8 (Vx.len (below l1.den)) j8] 34) (.cells #[.bool (decide (r0.num<0)),.slice C9 (Vx.len r0.num.natAbs) j9,.slice C10 (Vx.len (below r0.den)) j10,.bool (decide (r1.num<0)),.slice C11 (Vx.len r1.num.natAbs) j11,.slice C12 (Vx.len (below r1.den)) j12] 34) (.cells #[.bool false,.slice none 0 0,.slice none 0 0,.bool false,.slice none 0 0,.slice none 0 0] 34)
 rw [←hw1] at b1 g1 g2 g3 g4
 replace g1:=hid g1
 replace g2:=hid g2
 replace g3:=hid g3
 replace g4:=hid g4
 replace b1:=hid b1
 go_enter Tryz.func5,Tryz.ntmps5
 go_upto_region 1 with fail
 rw [←hw1]
 clear hw1
 have HX:=hid (Ay' (w:=w1) et.out (by omega) (by omega))
 go_wp2_with fail
 refine (HX.out).mono ?_
 rintro e w2 ⟨v2,rfl,hv2,b2⟩
 obtain ⟨C13,j13,C14,j14,rfl,-,-⟩:=id hv2.opened
 replace hv2:=hid hv2
 replace b2:=hid b2
 clear HX
 go_upto_region 2 with fail
 obtain ⟨w3,hw3⟩:=eX (w2.alloc (.cells #[.bool (decide (t.num<0)),.slice C13 (Vx.len t.num.natAbs) j13,.slice C14 (Vx.len (below t.den)) j14] 32))
 have b3:=hid (Ar hw3)
 have L3:=hid (At' hw3)
 rw [←hw3]
 clear hw3
 go_upto_region 3 with fail
 obtain ⟨w4,hw4⟩:=eX (w3.alloc (.cells #[.func (.func 26) #[] #[.pointer (some ⟨w2.heap.size,0,none⟩)]] 66))
 have b4:=hid (Ar hw4)
 have LD:=hid (At' hw4)
 rw [←hw4]
 clear hw4
 have zd:=cR _ _ 0 _ _ _ LD.out
 simp only [lg,lz] at zd
 have y1_4:=hid (bS (bS b2.out b3.out) b4.out)
 obtain ⟨z_f_0,z_f_1,z_f_2,z_f_3,z_f_4,z_f_5⟩:=Af (Ac' g1.out y1_4.out)
 obtain ⟨z_l_0,z_l_1,z_l_2,z_l_3,z_l_4,z_l_5⟩:=Af (Ac' g2.out y1_4.out)
 obtain ⟨z_r_0,z_r_1,z_r_2,z_r_3,z_r_4,z_r_5⟩:=Af (Ac' g3.out y1_4.out)
 have y2_4:=hid (bS b3.out b4.out)
 have y0_4:=hid (bS (bS (bS b1.out b2.out) b3.out) b4.out)
 have HX:=hid (BM (F:=divisorQ) (fn:=26) (cap:=#[.pointer (some ⟨w2.heap.size,0,none⟩)]) CK (fun u vx vy vz x y z hb mx my mz i j k=>CE i j k (Ap mx sf'.out.1 sf'.out.2) (Ap my sl'.out.1 sl'.out.2) (Ap mz sr'.out.1 sr'.out.2) (Ac' (Ac' L3.out b4.out) (hb)) ((hv2.out.keep y2_4.out).keep hb) et2.out) (hf.out.keep y0_4.out) (hl.out.keep y0_4.out) (hr.out.keep y0_4.out) sf'.out sl'.out sr'.out sF.out edl.out edh.out)
 go_wp2_with fail
 refine (HX.out).mono ?_
 rintro e w5 ⟨v5,rfl,hv5,b5⟩
 obtain ⟨C15,j15,C16,j16,C17,j17,C18,j18,rfl,-,-,-,-⟩:=id hv5.opened
 replace hv5:=hid hv5
 replace b5:=hid b5
 clear HX
 have HX:=hid ((show Calls _ _ _ _ (BF _ true) from dz.out ▸ Cl hv5.out (Bg w5) sD.out.1 sD.out.2 (by decide)))
 go_wp2_with fail
 refine (HX.out).mono ?_
 rintro e w6 ⟨rfl,b6⟩
 replace b6:=hid b6
 clear HX
 have y1_6:=hid (bS (bS y1_4.out b5.out) b6.out)
 have DR:=(Ac' g4.out y1_6.out)
 have q0:w6.cell? ⟨w.heap.size+3,0,none⟩=some (.bool false):=cR _ _ _ _ _ _ DR
 have F0:w6.frozen? ⟨w.heap.size+3,0,none⟩=false:=fR w6 (w.heap.size+3) 0 _ _ DR
 have q1:w6.cell? ⟨w.heap.size+3,1,none⟩=some (.slice none 0 0):=cR _ _ _ _ _ _ DR
 have F1:w6.frozen? ⟨w.heap.size+3,1,none⟩=false:=fR w6 (w.heap.size+3) 1 _ _ DR
 have q2:w6.cell? ⟨w.heap.size+3,2,none⟩=some (.slice none 0 0):=cR _ _ _ _ _ _ DR
 have F2:w6.frozen? ⟨w.heap.size+3,2,none⟩=false:=fR w6 (w.heap.size+3) 2 _ _ DR
 have q3:w6.cell? ⟨w.heap.size+3,3,none⟩=some (.bool false):=cR _ _ _ _ _ _ DR
 have F3:w6.frozen? ⟨w.heap.size+3,3,none⟩=false:=fR w6 (w.heap.size+3) 3 _ _ DR
 have q4:w6.cell? ⟨w.heap.size+3,4,none⟩=some (.slice none 0 0):=cR _ _ _ _ _ _ DR
 have F4:w6.frozen? ⟨w.heap.size+3,4,none⟩=false:=fR w6 (w.heap.size+3) 4 _ _ DR
 have q5:w6.cell? ⟨w.heap.size+3,5,none⟩=some (.slice none 0 0):=cR _ _ _ _ _ _ DR
 have F5:w6.frozen? ⟨w.heap.size+3,5,none⟩=false:=fR w6 (w.heap.size+3) 5 _ _ DR
 have y0_6:=hid (bS (bS y0_4.out b5.out) b6.out)
 have FB:=y0_6.out
 have FV:=(EY w6)
 obtain ⟨ue,hw⟩:=eX (((((((w6.setCell ⟨w.heap.size+3,0,none⟩ (.bool false)).setCell ⟨w.heap.size+3,1,none⟩ (.slice none 0 0)).setCell ⟨w.heap.size+3,2,none⟩ (.slice none 0 0)).setCell ⟨w.heap.size+3,3,none⟩ (.bool false)).setCell ⟨w.heap.size+3,4,none⟩ (.slice none 0 0)).setCell ⟨w.heap.size+3,5,none⟩ (.slice none 0 0)))
 obtain ⟨E_ue,-,LV,BL⟩:=Av DR hw
 have FE:=hid (LV.box FV)
 replace FB:=hid (BL _ _ (by omega) FB)
 replace E_ue:=hid E_ue
 replace hw:=hid hw
 clear DR FV LV BL
 go_wp2_with fail
 rw [←hw.out]
 obtain ⟨r0,r1,r2,r3,r4,r5⟩:=Af E_ue.out
 refine bP (v:=.tuple #[.agg #[.bool false,.slice none 0 0,.slice none 0 0,.bool false,.slice none 0 0,.slice none 0 0],.int .i64 42]) ?_ rfl ⟨_,rfl,FE.out,FB.out⟩
 simp [results,Tryz.results5,go_sem,r0,r1,r2,r3,r4,r5]
theorem FV' {w:World} {g:Nat} {p q:Rat × Rat} {T:TypeId} {s10 s11 s20 s21:Bool} {A10 B10 A11 B11 A20 B20 A21 B21:Option Addr} {l10 c10 m10 d10 l11 c11 m11 d11 l20 c20 m20 d20 l21 c21 m21 d21:Nat} (h:w.heap[g]?=some (.cells #[.bool s10,.slice A10 l10 c10,.slice B10 m10 d10,.bool s11,.slice A11 l11 c11,.slice B11 m11 d11,.bool s20,.slice A20 l20 c20,.slice B20 m20 d20,.bool s21,.slice A21 l21 c21,.slice B21 m21 d21] T (0,0)))
   (hp:Aj w (.agg #[.bool s10,.slice A10 l10 c10,.slice B10 m10 d10,.bool s11,.slice A11 l11 c11,.slice B11 m11 d11]) p.1 p.2) (hq:Aj w (.agg #[.bool s20,.slice A20 l20 c20,.slice B20 m20 d20,.bool s21,.slice A21 l21 c21,.slice B21 m21 d21]) q.1 q.2):CJ w g 0 [p,q]:=by
 have hc:∀ (k:Nat) (v:Value),(#[.bool s10,.slice A10 l10 c10,.slice B10 m10 d10,.bool s11,.slice A11 l11 c11,.slice B11 m11 d11,.bool s20,.slice A20 l20 c20,.slice B20 m20 d20,.bool s21,.slice A21 l21 c21,.slice B21 m21 d21]:Array Value)[k]?=some v→w.cell? ⟨g,k,none⟩=some v:=fun k v hk=>(cR _ _ _ _ _ _ h).trans hk
 intro i x hi
 match i with
 | 0 =>
   obtain rfl:=Option.some.inj hi
   obtain ⟨a1,a2,a3,a4,a5,a6,a7,a8,he,-,-⟩:=id hp.opened
   rw [he] at hp
   injection he with he
   injection he with he
   simp only [List.cons.injEq] at he
   obtain ⟨e0,e1,e2,e3,e4,e5,-⟩:=he
   exact ⟨a1,a2,a3,a4,a5,a6,a7,a8,(hc 0 _ rfl).trans (congrArg some e0),(hc 1 _ rfl).trans (congrArg some e1),(hc 2 _ rfl).trans (congrArg some e2),(hc 3 _ rfl).trans (congrArg some e3),(hc 4 _ rfl).trans (congrArg some e4),(hc 5 _ rfl).trans (congrArg some e5),hp⟩
 | 1 =>
   obtain rfl:=Option.some.inj hi
   obtain ⟨a1,a2,a3,a4,a5,a6,a7,a8,he,-,-⟩:=id hq.opened
   rw [he] at hq
   injection he with he
   injection he with he
   simp only [List.cons.injEq] at he
   obtain ⟨e0,e1,e2,e3,e4,e5,-⟩:=he
   exact ⟨a1,a2,a3,a4,a5,a6,a7,a8,(hc 6 _ rfl).trans (congrArg some e0),(hc 7 _ rfl).trans (congrArg some e1),(hc 8 _ rfl).trans (congrArg some e2),(hc 9 _ rfl).trans (congrArg some e3),(hc 10 _ rfl).trans (congrArg some e4),(hc 11 _ rfl).trans (congrArg some e5),hq⟩
 | i+2=>simp at hi
theorem Et' {w:World} {P:Nat} {a b r:Rat} {A1 B1 A2 B2 A3 B3:Option Addr} {c1 d1 c2 d2 c3 d3:Nat}  {y0 y2 y3 y4 y5 y6 y7 y8 y9 y10 y11 y12 y13 y14 y15 y16 y17 y18 y19 y20 y21 y22 y23 y24 y25 y26 y27 y28 y29 y30 y31 y32 y33 y34 y35 y36 y37 y38 y39 y40 y41 y42 y43 y44 y45 y46 y47 y48 y49 y50 y51 y52 y53 y54 y55 y56 y57 y58 y59 y60 y61 y62 y63 y64 y65 y66 y67 y68 y69 y70 y71 y72 y73 y74 y75 y76 y77 y78 y79 y80 y81 y82 y83 y84 y85 y86 y87 y88 y89 y90 y91 y92 y93 y94 y95 y96 y97 y98 y99 y100 y101 y102 y103 y104 y105 y106 y107 y108 y109 y110 y111 y112 y113:Value} {Po:Ending→World→Prop} (hP:w.heap[P]?=some (.cells #[.bool (decide (a.num<0)),.slice A1 (Vx.len a.num.natAbs) c1,.slice B1 (Vx.len (below a.den)) d1,.bool (decide (b.num<0)),.slice A2 (Vx.len b.num.natAbs) c2,.slice B2 (Vx.len (below b.den)) d2,.bool (decide (r.num<0)),.slice A3 (Vx.len r.num.natAbs) c3,.slice B3 (Vx.len (below r.den)) d3] 71 (0,0))) (hp:AQ' w (.agg #[.bool (decide (a.num<0)),.slice A1 (Vx.len a.num.natAbs) c1,.slice B1 (Vx.len (below a.den)) d1,.bool (decide (b.num<0)),.slice A2 (Vx.len b.num.natAbs) c2,.slice B2 (Vx.len (below b.den)) d2,.bool (decide (r.num<0)),.slice A3 (Vx.len r.num.natAbs) c3,.slice B3 (Vx.len (below r.den)) d3]) a b r) (ea:mkRat 1 2=a) (eb:mkRat 3 4=b) (er:0=r) (hT:TabAt 0 Lib.deBruijn64tab w) (hPo:∀ w',Below w.heap.size w w'→Po (.returned (.bool true)) w') :
   (codeAt 2 Tryz.f7).wp Tryz.prog (bodyPost Tryz.prog Tryz.f7 Po) { tmps:=#[y0,.pointer (some ⟨P,0,none⟩),y2,y3,y4,y5,y6,y7,y8,y9,y10,y11,y12,y13,y14,y15,y16,y17,y18,y19,y20,y21,y22,y23,y24,y25,y26,y27,y28,y29,y30,y31,y32,y33,y34,y35,y36,y37,y38,y39,y40,y41,y42,y43,y44,y45,y46,y47,y48,y49,y50,y51,y52,y53,y54,y55,y56,y57,y58,y59,y60,y61,y62,y63,y64,y65,y66,y67,y68,y69,y70,y71,y72,y73,y74,y75,y76,y77,y78,y79,y80,y81,y82,y83,y84,y85,y86,y87,y88,y89,y90,y91,y92,y93,y94,y95,y96,y97,y98,y99,y100,y101,y102,y103,y104,y105,y106,y107,y108,y109,y110,y111,y112,y113],defers:=[] } w:=by
 obtain ⟨m,em⟩:=eY (((8:Int):Rat):Rat)
 obtain ⟨x,ex⟩:=eY ((6:Rat):Rat)
 obtain ⟨y,ey⟩:=eY (mkRat 15 2:Rat)
 have KP:=hid (Dn ea eb er)
 have KF:=hid (GB' em ea eb ex ey)
 have hPl:=Af' hP
 obtain ⟨z0,z1,z2,z3,z4,z5,z6,z7,z8⟩:=CJ' hP
 replace ex:=hid ex
 replace ey:=hid ey
 replace em:=hid em
 replace ea:=hid ea
 replace eb:=hid eb
 replace er:=hid er
 replace hP:=hid hP
 replace hp:=hid hp
 replace hPo:=hid hPo
 replace hT:=hid hT
 show Code.wp _ (Code.seq _ _) _ _ _
 refine wp_seq_k ?_
 intro G hG
 replace hG:=hid hG
 go_wp2_with fail
 refine wp_region_held_drew (S:=(fun w'=>(w'.cell? ⟨P,0,none⟩=w.cell? ⟨P,0,none⟩∧w'.cell? ⟨P,1,none⟩=w.cell? ⟨P,1,none⟩∧w'.cell? ⟨P,2,none⟩=w.cell? ⟨P,2,none⟩∧w'.cell? ⟨P,3,none⟩=w.cell? ⟨P,3,none⟩∧w'.cell? ⟨P,4,none⟩=w.cell? ⟨P,4,none⟩∧w'.cell? ⟨P,5,none⟩=w.cell? ⟨P,5,none⟩∧w'.cell? ⟨P,6,none⟩=w.cell? ⟨P,6,none⟩∧w'.cell? ⟨P,7,none⟩=w.cell? ⟨P,7,none⟩∧w'.cell? ⟨P,8,none⟩=w.cell? ⟨P,8,none⟩))) (by kernel_rfl) ?_ (fun hHeld=>?_)
 · (try dsimp only)
   exact ⟨rfl,rfl,rfl,rfl,rfl,rfl,rfl,rfl,rfl⟩
 obtain ⟨w1,hw1⟩:=eX w.drew
 have b1:Hid (Below w.heap.size w w1):=hid (by rw [hw1];exact ⟨rfl,rfl,rfl,nL _,fun _ _=>rfl⟩)
 rw [←hw1] at hHeld ⊢
 clear hw1
 have lbW:w.heap.size≤w1.heap.size:=b1.out.size
 have lbS:w.heap.size≤w1.heap.size:=b1.out.size
 refine tk (i:=0) (h:=?_)
 try simp only [Act.put,lt,ly,lu]
 refine tk (i:=1) (h:=?_)
 try simp only [Act.put,lt,ly,lu]
 refine rd (i:=2) (h:=fun K hK=>?_)
 go_simp;go_at_call 25
 refine (Ay' (w:=w1) em.out (by omega) (by omega)).mono ?_
 rintro e w2 ⟨v2,rfl,hv2,b2⟩
 obtain ⟨C1,j1,C2,j2,rfl,-,-⟩:=id hv2.opened
 replace hv2:=hid hv2
 replace b2:=hid b2
 have y0_2:=hid (bS b1.out b2.out)
 have hS:=y0_2.out
 clear hHeld
 refine hK.out _ _ ?_ (fun hHeld=>?_)
 · (try dsimp only)
   exact ⟨hS.cell (p:=⟨P,0,none⟩) hPl,hS.cell (p:=⟨P,1,none⟩) hPl,hS.cell (p:=⟨P,2,none⟩) hPl,hS.cell (p:=⟨P,3,none⟩) hPl,hS.cell (p:=⟨P,4,none⟩) hPl,hS.cell (p:=⟨P,5,none⟩) hPl,hS.cell (p:=⟨P,6,none⟩) hPl,hS.cell (p:=⟨P,7,none⟩) hPl,hS.cell (p:=⟨P,8,none⟩) hPl⟩
 clear hK K hS;try simp only [Act.put,lt,ly,lu]
 refine rd (i:=3) (h:=fun K hK=>?_)
 go_simp;go_at_call 15
 refine (Cx' hv2.out (nT KF.out.2.2 (by omega))).mono ?_
 rintro e w3 ⟨v3,rfl,hv3,b3⟩
 obtain ⟨C3,j3,C4,j4,C5,j5,C6,j6,rfl,-,-,-,-⟩:=id hv3.opened
 replace hv3:=hid hv3
 replace b3:=hid b3
 have y0_3:=hid (bS y0_2.out b3.out)
 have hS:=y0_3.out
 clear hHeld
 refine hK.out _ _ ?_ (fun hHeld=>?_)
 · (try dsimp only)
   exact ⟨hS.cell (p:=⟨P,0,none⟩) hPl,hS.cell (p:=⟨P,1,none⟩) hPl,hS.cell (p:=⟨P,2,none⟩) hPl,hS.cell (p:=⟨P,3,none⟩) hPl,hS.cell (p:=⟨P,4,none⟩) hPl,hS.cell (p:=⟨P,5,none⟩) hPl,hS.cell (p:=⟨P,6,none⟩) hPl,hS.cell (p:=⟨P,7,none⟩) hPl,hS.cell (p:=⟨P,8,none⟩) hPl⟩
 clear hK K hS;try simp only [Act.put,lt,ly,lu]
 refine rd (i:=4) (h:=fun K hK=>?_)
 go_simp;go_at_call 25
 refine (Ay' (w:=w3) em.out (by omega) (by omega)).mono ?_
 rintro e w4 ⟨v4,rfl,hv4,b4⟩
 obtain ⟨C7,j7,C8,j8,rfl,-,-⟩:=id hv4.opened
 replace hv4:=hid hv4
 replace b4:=hid b4
 have y0_4:=hid (bS y0_3.out b4.out)
 have hS:=y0_4.out
 clear hHeld
 refine hK.out _ _ ?_ (fun hHeld=>?_)
 · (try dsimp only)
   exact ⟨hS.cell (p:=⟨P,0,none⟩) hPl,hS.cell (p:=⟨P,1,none⟩) hPl,hS.cell (p:=⟨P,2,none⟩) hPl,hS.cell (p:=⟨P,3,none⟩) hPl,hS.cell (p:=⟨P,4,none⟩) hPl,hS.cell (p:=⟨P,5,none⟩) hPl,hS.cell (p:=⟨P,6,none⟩) hPl,hS.cell (p:=⟨P,7,none⟩) hPl,hS.cell (p:=⟨P,8,none⟩) hPl⟩
 clear hK K hS;try simp only [Act.put,lt,ly,lu]
 refine rd (i:=5) (h:=fun K hK=>?_)
 go_simp;go_at_call 15
 refine (Cx' hv4.out (nT KF.out.2.2 (by omega))).mono ?_
 rintro e w5 ⟨v5,rfl,hv5,b5⟩
 obtain ⟨C9,j9,C10,j10,C11,j11,C12,j12,rfl,-,-,-,-⟩:=id hv5.opened
 replace hv5:=hid hv5
 replace b5:=hid b5
 have y0_5:=hid (bS y0_4.out b5.out)
 have hS:=y0_5.out
 clear hHeld
 refine hK.out _ _ ?_ (fun hHeld=>?_)
 · (try dsimp only)
   exact ⟨hS.cell (p:=⟨P,0,none⟩) hPl,hS.cell (p:=⟨P,1,none⟩) hPl,hS.cell (p:=⟨P,2,none⟩) hPl,hS.cell (p:=⟨P,3,none⟩) hPl,hS.cell (p:=⟨P,4,none⟩) hPl,hS.cell (p:=⟨P,5,none⟩) hPl,hS.cell (p:=⟨P,6,none⟩) hPl,hS.cell (p:=⟨P,7,none⟩) hPl,hS.cell (p:=⟨P,8,none⟩) hPl⟩
 clear hK K hS;try simp only [Act.put,lt,ly,lu]
 refine rd (i:=6) (h:=fun K hK=>?_)
 have y1_5:=hid (bS (bS (bS b2.out b3.out) b4.out) b5.out)
 have lb_sl:w1.heap.size≤w5.heap.size:=y1_5.out.size
 go_simp
 obtain ⟨w6,hw6⟩:=eX (w5.alloc (.cells #[.bool (decide (m.num<0)),.slice C3 (Vx.len m.num.natAbs) j3,.slice C4 (Vx.len (below m.den)) j4,.bool (decide (m.num<0)),.slice C5 (Vx.len m.num.natAbs) j5,.slice C6 (Vx.len (below m.den)) j6,.bool (decide (m.num<0)),.slice C9 (Vx.len m.num.natAbs) j9,.slice C10 (Vx.len (below m.den)) j10,.bool (decide (m.num<0)),.slice C11 (Vx.len m.num.natAbs) j11,.slice C12 (Vx.len (below m.den)) j12] 34))
 have b6:=hid (Ar hw6)
 have L6:=hid (At' hw6)
 rw [←hw6]
 clear hw6
 have y0_6:=hid (bS y0_5.out b6.out)
 have hS:=y0_6.out
 clear hHeld
 refine hK.out _ _ ?_ (fun hHeld=>?_)
 · (try dsimp only)
   exact ⟨hS.cell (p:=⟨P,0,none⟩) hPl,hS.cell (p:=⟨P,1,none⟩) hPl,hS.cell (p:=⟨P,2,none⟩) hPl,hS.cell (p:=⟨P,3,none⟩) hPl,hS.cell (p:=⟨P,4,none⟩) hPl,hS.cell (p:=⟨P,5,none⟩) hPl,hS.cell (p:=⟨P,6,none⟩) hPl,hS.cell (p:=⟨P,7,none⟩) hPl,hS.cell (p:=⟨P,8,none⟩) hPl⟩
 clear hK K hS;try simp only [Act.put,lt,ly,lu]
 refine rd (i:=7) (h:=fun K hK=>?_)
 have y3_6:=hid (bS (bS b4.out b5.out) b6.out)
 go_simp;go_at_call 34
 refine (FS (n:=2) (s0:=0) (s1:=0) (hp.out.keep y0_6.out) (EY w6) (FV' (p:=(m,m)) (q:=(m,m)) L6.out (hv3.out.keep y3_6.out) (hv5.out.keep b6.out)) KP.out.1 rfl (by omega) (by omega) (fun k hk=>⟨nT (KF.out.2.1 ⟨k,by omega⟩).1 (by omega),nT (KF.out.2.1 ⟨k,by omega⟩).2 (by omega)⟩) (fun x hx=>by have h9:Ab' m≤1000000:=nT KF.out.2.2 (by omega);simp only [List.mem_cons,List.not_mem_nil,or_false,or_self] at hx;subst hx;exact ⟨h9,h9⟩) ⟨nT KP.out.2.1.1 (by omega),nT KP.out.2.1.2 (by omega)⟩).mono ?_
 rintro e w7 ⟨Bp,rfl,hcl,b7⟩
 have hf1:=hcl 1 (by omega)
 rw [KF.out.1] at hf1
 obtain ⟨A4,c4,B4,d4,A5,c5,B5,d5,f0,f1,f2,f3,f4,f5,hfb⟩:=hf1
 replace hfb:=hid hfb
 replace b7:=hid b7
 clear hcl
 have y0_7:=hid (bS y0_6.out b7.out)
 have hS:=y0_7.out
 clear hHeld
 refine hK.out _ _ ?_ (fun hHeld=>?_)
 · (try dsimp only)
   exact ⟨hS.cell (p:=⟨P,0,none⟩) hPl,hS.cell (p:=⟨P,1,none⟩) hPl,hS.cell (p:=⟨P,2,none⟩) hPl,hS.cell (p:=⟨P,3,none⟩) hPl,hS.cell (p:=⟨P,4,none⟩) hPl,hS.cell (p:=⟨P,5,none⟩) hPl,hS.cell (p:=⟨P,6,none⟩) hPl,hS.cell (p:=⟨P,7,none⟩) hPl,hS.cell (p:=⟨P,8,none⟩) hPl⟩
 clear hK K hS;try simp only [Act.put,lt,ly,lu]
 refine tk (i:=8) (h:=?_)
 try simp only [Act.put,lt,ly,lu]
 refine tk (i:=9) (h:=?_)
 try simp only [Act.put,lt,ly,lu]
 refine tk (i:=10) (h:=?_)
 try simp only [Act.put,lt,ly,lu]
 refine tk (i:=11) (h:=?_)
 try simp only [Act.put,lt,ly,lu]
 refine tk (i:=12) (h:=?_)
 try simp only [Act.put,lt,ly,lu]
 refine wpAnyH_done (by kernel_rfl) ?_ _
 clear hHeld
 have FB:=hid y0_7.out
 go_wp2_with fail
 refine hG.out _ _ ?_
 exact Eb (Ac' hP.out FB.out) (hp.out.keep FB.out) ea.out eb.out er.out ⟨f0,f1,f2,f3,f4,f5⟩ hfb.out ex.out ey.out (Ar' hT.out FB.out) (fun w' h=>hPo.out w' (Ae' FB.out h))
theorem Hf' {a b r:Rat} (ea:mkRat 1 2=a) (eb:mkRat 3 4=b) (er:0=r):AE 1 1=a∧AE 3 3=b∧AE 0 0=r∧leastOf a [b]=a∧greatestOf a [b]=b:=by
 subst ea eb er
 decide +kernel
theorem DT' {w:World} (hT:TabAt 0 Lib.deBruijn64tab w) :
   Calls Tryz.prog 7 #[] w (BF w true):=by
 obtain ⟨a,ea⟩:=eY (mkRat 1 2:Rat)
 obtain ⟨b,eb⟩:=eY (mkRat 3 4:Rat)
 obtain ⟨r,er⟩:=eY ((0:Rat):Rat)
 have KA:=hid (Hf' ea eb er)
 replace ea:=hid ea
 replace eb:=hid eb
 replace er:=hid er
 replace hT:=hid hT
 go_enter Tryz.func7,Tryz.ntmps7
 go_upto_region 1 with fail
 rename_i G hG
 replace hG:=hid hG
 have HX:=hid (GA (w:=w) (M0:=1) (D0:=1) (M1:=3) (D1:=3) (M2:=0) (D2:=0) (x:=a) (y:=b) (lo:=a) (hi:=b) (r:=r) (by omega) (by omega) (by omega) (by omega) (by omega) (by omega) KA.out.1 KA.out.2.1 (by omega) (by omega) (by omega) KA.out.2.2.1 KA.out.2.2.2.1 KA.out.2.2.2.2)
 go_wp2_with fail
 refine (HX.out).mono ?_
 rintro e w1 ⟨v,v2,rfl,hp,hrp,b1⟩
 obtain ⟨A1,c1,B1,d1,A2,c2,B2,d2,A3,c3,B3,d3,rfl,-,-⟩:=id hp.opened
 obtain ⟨X1,x1,Y1,y1,X2,x2,Y2,y2,X3,x3,Y3,y3,rfl,-,-⟩:=id hrp
 replace hp:=hid hp
 replace b1:=hid b1
 clear hrp HX
 go_wp2_with fail
 obtain ⟨w2,hw2⟩:=eX ((w1.alloc (.cells #[.bool (decide (a.num<0)),.slice A1 (Vx.len a.num.natAbs) c1,.slice B1 (Vx.len (below a.den)) d1,.bool (decide (b.num<0)),.slice A2 (Vx.len b.num.natAbs) c2,.slice B2 (Vx.len (below b.den)) d2,.bool (decide (r.num<0)),.slice A3 (Vx.len r.num.natAbs) c3,.slice B3 (Vx.len (below r.den)) d3] 71)).alloc (.cells #[.bool (decide (a.num<0)),.slice X1 (len a.num.natAbs) x1,.slice Y1 (len a.den) y1,.bool (decide (b.num<0)),.slice X2 (len b.num.natAbs) x2,.slice Y2 (len b.den) y2,.bool (decide (r.num<0)),.slice X3 (len r.num.natAbs) x3,.slice Y3 (len r.den) y3] 73))
 obtain ⟨b2,L2,-⟩:=CV hw2
 rw [←hw2]
 clear hw2
 refine hG.out _ _ ?_
 have FB:=bS b1.out b2
 exact Et' L2 (hp.out.keep b2) ea.out eb.out er.out (Ar' hT.out FB) (fun w' h=>⟨rfl,Ae' FB h⟩)
def BB (lo hi:Rat) (d:Nat):Rat:=lo+(hi - lo)*((((d:Nat):Int):Rat) / ((255:Int):Rat))
theorem DD' {lo hi:Rat} {d:Nat} (h:lo≤hi) (hd:d≤255):lo≤BB lo hi d∧BB lo hi d≤hi:=by
 unfold BB
 have hd1:(((d:Nat):Int):Rat)≤((255:Int):Rat):=Rat.intCast_le_intCast.2 (by omega)
 have hd0:((0:Int):Rat)≤(((d:Nat):Int):Rat):=Rat.intCast_le_intCast.2 (by omega)
 have h255:(0:Rat)<((255:Int):Rat):=by decide
 obtain ⟨k,ek⟩:=eY ((((d:Nat):Int):Rat) / ((255:Int):Rat))
 have k0:0≤k:=by rw [←ek,Cn h255,Rat.zero_mul];exact hd0
 have k1:k≤1:=by rw [←ek,Cn' h255,Rat.one_mul];exact hd1
 rw [ek]
 have a1:=Rat.mul_nonneg (show 0≤hi - lo by grind) k0
 have a2:=Rat.mul_nonneg (show 0≤hi - lo by grind) (show 0≤1 - k by grind)
 constructor <;> grind
theorem Df' {lo hi:Rat} {d:Nat} (hd:d≤255):Ab' (BB lo hi d)≤Ab' lo+Ab' lo+Ab' hi+20:=by
 unfold BB
 obtain ⟨x,hx⟩:=eY ((((d:Nat):Int):Rat):Rat)
 obtain ⟨y,hy⟩:=eY (((255:Int):Rat):Rat)
 have h1:=B9' hx (by omega) (by omega)
 have h2:=B9' hy (by omega) (by omega)
 rw [hx,hy]
 have h3:=Vx.AU x y
 have h4:=Vx.AF' hi lo
 have h5:=Vx.A9 (hi - lo) (x / y)
 have h6:=Vx.AM lo ((hi - lo)*(x / y))
 omega
theorem Dg {w:World} {vb:Value} {lo hi:Rat} {d:Nat} (hb:Aj w vb lo hi) (hd:d≤255) (slo:Ab' lo≤1000000) (shi:Ab' hi≤1000000) :
   Calls Tryz.prog 8 #[vb,.int .u8 ((d:Nat):Int)] w (Ao' w (BB lo hi d)):=by
 obtain ⟨k,ek⟩:=eY ((((d:Nat):Int):Rat) / ((255:Int):Rat):Rat)
 obtain ⟨e,ee⟩:=eY (hi - lo:Rat)
 obtain ⟨m,em⟩:=eY (e*k:Rat)
 obtain ⟨s,es⟩:=eY (lo+m:Rat)
 have hs:s=BB lo hi d:=by unfold BB;rw [←es,←em,←ee,←ek]
 have sk:Ab' k≤9:=by
   rw [←ek]
   have h1:=B9' (show (((d:Nat):Int):Rat)=_ from rfl) (by omega) (by omega)
   have h2:=B9' (show ((255:Int):Rat)=_ from rfl) (by omega) (by omega)
   have:=Vx.AU (((d:Nat):Int):Rat) ((255:Int):Rat)
   omega
 have se:Ab' e≤Ab' hi+Ab' lo+1:=by rw [←ee];exact Vx.AF' hi lo
 have sm:Ab' m≤Ab' e+Ab' k:=by rw [←em];exact Vx.A9 e k
 have kk:Ab' k≤536870912:=by omega
 have ke:Ab' e≤536870912:=by omega
 have km:Ab' m≤536870912:=by omega
 have kl:Ab' lo≤536870912:=by omega
 have kh:Ab' hi≤536870912:=by omega
 have hw1':IntKind.i64.wrap ((d:Nat):Int)=((d:Nat):Int):=by
   unfold IntKind.wrap
   simp [IntKind.bits,IntKind.signed]
   omega
 have d1:(-9223372036854775808:Int)≤((d:Nat):Int):=by omega
 have d2:((d:Nat):Int)≤9223372036854775807:=by omega
 rw [←hs]
 clear hs sk se sm
 replace ek:=hid ek
 replace ee:=hid ee
 replace em:=hid em
 replace es:=hid es
 replace kk:=hid kk
 replace ke:=hid ke
 replace km:=hid km
 replace kl:=hid kl
 replace kh:=hid kh
 replace slo:=hid slo
 replace shi:=hid shi
 obtain ⟨C1,j1,C2,j2,C3,j3,C4,j4,rfl,-,-⟩:=id hb.opened
 replace hb:=hid hb
 obtain ⟨w1,hw1⟩:=eX (((w.alloc (.cells #[.bool (decide (lo.num<0)),.slice C1 (Vx.len lo.num.natAbs) j1,.slice C2 (Vx.len (below lo.den)) j2,.bool (decide (hi.num<0)),.slice C3 (Vx.len hi.num.natAbs) j3,.slice C4 (Vx.len (below hi.den)) j4] 34)).alloc (.cells #[.bool false,.slice none 0 0,.slice none 0 0] 32)))
 obtain ⟨b1,g1,g2⟩:=AA' hw1
 replace g1:=hid g1
 replace g2:=hid g2
 replace b1:=hid b1
 go_enter Tryz.func8,Tryz.ntmps8
 go_upto_region 1 with fail
 rw [←hw1]
 clear hw1
 have HX:=hid (BY' (w:=w1) ek.out (by omega) d1 d2 (by omega))
 go_wp2_with fail
 refine (HX.out).mono ?_
 rintro e w2 ⟨v2,rfl,hv2,b2⟩
 obtain ⟨C5,j5,C6,j6,rfl,-,-⟩:=id hv2.opened
 replace hv2:=hid hv2
 replace b2:=hid b2
 clear HX
 have hRk:=Af' (Ac' g2.out b2.out)
 go_upto_region 2 with fail
 obtain ⟨w3,hw3⟩:=eX (w2.alloc (.cells #[.bool (decide (k.num<0)),.slice C5 (Vx.len k.num.natAbs) j5,.slice C6 (Vx.len (below k.den)) j6] 32))
 have b3:=hid (Ar hw3)
 have L3:=hid (At' hw3)
 rw [←hw3]
 clear hw3
 have y1_3:=hid (bS b2.out b3.out)
 obtain ⟨z_b_0,z_b_1,z_b_2,z_b_3,z_b_4,z_b_5⟩:=Af (Ac' g1.out y1_3.out)
 obtain ⟨z_k_0,z_k_1,z_k_2⟩:=Ae L3.out
 have hbl:=Af' (Ac' g1.out y1_3.out)
 have hkl:=Af' L3.out
 go_wp2_with fail
 refine wp_region_held_drew (S:=(fun w'=>(w'.cell? ⟨w.heap.size,0,none⟩=w3.cell? ⟨w.heap.size,0,none⟩∧w'.cell? ⟨w.heap.size,1,none⟩=w3.cell? ⟨w.heap.size,1,none⟩∧w'.cell? ⟨w.heap.size,2,none⟩=w3.cell? ⟨w.heap.size,2,none⟩∧w'.cell? ⟨w.heap.size,3,none⟩=w3.cell? ⟨w.heap.size,3,none⟩∧w'.cell? ⟨w.heap.size,4,none⟩=w3.cell? ⟨w.heap.size,4,none⟩∧w'.cell? ⟨w.heap.size,5,none⟩=w3.cell? ⟨w.heap.size,5,none⟩∧w'.cell? ⟨w2.heap.size,0,none⟩=w3.cell? ⟨w2.heap.size,0,none⟩∧w'.cell? ⟨w2.heap.size,1,none⟩=w3.cell? ⟨w2.heap.size,1,none⟩∧w'.cell? ⟨w2.heap.size,2,none⟩=w3.cell? ⟨w2.heap.size,2,none⟩))) (by kernel_rfl) ?_ (fun hHeld=>?_)
 · (try dsimp only)
   exact ⟨rfl,rfl,rfl,rfl,rfl,rfl,rfl,rfl,rfl⟩
 obtain ⟨w4,hw4⟩:=eX w3.drew
 have b4:Hid (Below w3.heap.size w3 w4):=hid (by rw [hw4];exact ⟨rfl,rfl,rfl,nL _,fun _ _=>rfl⟩)
 rw [←hw4] at hHeld ⊢
 clear hw4
 have y0_4:=hid (bS (bS (bS b1.out b2.out) b3.out) b4.out)
 have lbW:w.heap.size≤w4.heap.size:=y0_4.out.size
 have lbS:w3.heap.size≤w4.heap.size:=b4.out.size
 refine tk (i:=0) (h:=?_)
 try simp only [Act.put,lt,ly,lu]
 refine tk (i:=2) (h:=?_)
 try simp only [Act.put,lt,ly,lu]
 refine tk (i:=4) (h:=?_)
 try simp only [Act.put,lt,ly,lu]
 refine rd (i:=1) (h:=fun K hK=>?_)
 go_simp;go_at_call 30
 refine (Bm (hb.out.keep y0_4.out) (nT kl.out (by omega))).mono ?_
 rintro e w5 ⟨v5,rfl,hv5,b5⟩
 obtain ⟨C7,j7,C8,j8,rfl,-,-⟩:=id hv5.opened
 replace hv5:=hid hv5
 replace b5:=hid b5
 have y3_5:=hid (bS b4.out b5.out)
 have hS:=y3_5.out
 clear hHeld
 refine hK.out _ _ ?_ (fun hHeld=>?_)
 · (try dsimp only)
   exact ⟨hS.cell (p:=⟨w.heap.size,0,none⟩) hbl,hS.cell (p:=⟨w.heap.size,1,none⟩) hbl,hS.cell (p:=⟨w.heap.size,2,none⟩) hbl,hS.cell (p:=⟨w.heap.size,3,none⟩) hbl,hS.cell (p:=⟨w.heap.size,4,none⟩) hbl,hS.cell (p:=⟨w.heap.size,5,none⟩) hbl,hS.cell (p:=⟨w2.heap.size,0,none⟩) hkl,hS.cell (p:=⟨w2.heap.size,1,none⟩) hkl,hS.cell (p:=⟨w2.heap.size,2,none⟩) hkl⟩
 clear hK K hS;try simp only [Act.put,lt,ly,lu]
 refine rd (i:=3) (h:=fun K hK=>?_)
 have y0_5:=hid (bS y0_4.out b5.out)
 go_simp;go_at_call 39
 refine (Gx ee.out (hb.out.keep y0_5.out) kl.out kh.out).mono ?_
 rintro e w6 ⟨v6,rfl,hv6,b6⟩
 obtain ⟨C9,j9,C10,j10,rfl,-,-⟩:=id hv6.opened
 replace hv6:=hid hv6
 replace b6:=hid b6
 have y3_6:=hid (bS y3_5.out b6.out)
 have hS:=y3_6.out
 clear hHeld
 refine hK.out _ _ ?_ (fun hHeld=>?_)
 · (try dsimp only)
   exact ⟨hS.cell (p:=⟨w.heap.size,0,none⟩) hbl,hS.cell (p:=⟨w.heap.size,1,none⟩) hbl,hS.cell (p:=⟨w.heap.size,2,none⟩) hbl,hS.cell (p:=⟨w.heap.size,3,none⟩) hbl,hS.cell (p:=⟨w.heap.size,4,none⟩) hbl,hS.cell (p:=⟨w.heap.size,5,none⟩) hbl,hS.cell (p:=⟨w2.heap.size,0,none⟩) hkl,hS.cell (p:=⟨w2.heap.size,1,none⟩) hkl,hS.cell (p:=⟨w2.heap.size,2,none⟩) hkl⟩
 clear hK K hS;try simp only [Act.put,lt,ly,lu]
 refine rd (i:=5) (h:=fun K hK=>?_)
 have y2_6:=hid (bS (bS (bS b3.out b4.out) b5.out) b6.out)
 go_simp;go_at_call 13
 refine (B7' em.out hv6.out (hv2.out.keep y2_6.out) ke.out kk.out).mono ?_
 rintro e w7 ⟨v7,rfl,hv7,b7⟩
 obtain ⟨C11,j11,C12,j12,rfl,-,-⟩:=id hv7.opened
 replace hv7:=hid hv7
 replace b7:=hid b7
 have y3_7:=hid (bS y3_6.out b7.out)
 have hS:=y3_7.out
 clear hHeld
 refine hK.out _ _ ?_ (fun hHeld=>?_)
 · (try dsimp only)
   exact ⟨hS.cell (p:=⟨w.heap.size,0,none⟩) hbl,hS.cell (p:=⟨w.heap.size,1,none⟩) hbl,hS.cell (p:=⟨w.heap.size,2,none⟩) hbl,hS.cell (p:=⟨w.heap.size,3,none⟩) hbl,hS.cell (p:=⟨w.heap.size,4,none⟩) hbl,hS.cell (p:=⟨w.heap.size,5,none⟩) hbl,hS.cell (p:=⟨w2.heap.size,0,none⟩) hkl,hS.cell (p:=⟨w2.heap.size,1,none⟩) hkl,hS.cell (p:=⟨w2.heap.size,2,none⟩) hkl⟩
 clear hK K hS;try simp only [Act.put,lt,ly,lu]
 refine rd (i:=6) (h:=fun K hK=>?_)
 have y5_7:=hid (bS b6.out b7.out)
 go_simp;go_at_call 12
 refine (Cq es.out (hv5.out.keep y5_7.out) hv7.out kl.out km.out).mono ?_
 rintro e w8 ⟨v8,rfl,hv8,b8⟩
 obtain ⟨C13,j13,C14,j14,rfl,-,-⟩:=id hv8.opened
 replace hv8:=hid hv8
 replace b8:=hid b8
 have y3_8:=hid (bS y3_7.out b8.out)
 have hS:=y3_8.out
 clear hHeld
 refine hK.out _ _ ?_ (fun hHeld=>?_)
 · (try dsimp only)
   exact ⟨hS.cell (p:=⟨w.heap.size,0,none⟩) hbl,hS.cell (p:=⟨w.heap.size,1,none⟩) hbl,hS.cell (p:=⟨w.heap.size,2,none⟩) hbl,hS.cell (p:=⟨w.heap.size,3,none⟩) hbl,hS.cell (p:=⟨w.heap.size,4,none⟩) hbl,hS.cell (p:=⟨w.heap.size,5,none⟩) hbl,hS.cell (p:=⟨w2.heap.size,0,none⟩) hkl,hS.cell (p:=⟨w2.heap.size,1,none⟩) hkl,hS.cell (p:=⟨w2.heap.size,2,none⟩) hkl⟩
 clear hK K hS;try simp only [Act.put,lt,ly,lu]
 refine rd (i:=7) (h:=fun K hK=>?_)
 have y1_8:=hid (bS (bS (bS (bS (bS y1_3.out b4.out) b5.out) b6.out) b7.out) b8.out)
 have DBq6:=Ac' g2.out y1_8.out
 have q0:w8.cell? ⟨w.heap.size+1,0,none⟩=some (.bool false):=cR _ _ _ _ _ _ DBq6
 have F0:w8.frozen? ⟨w.heap.size+1,0,none⟩=false:=fR w8 (w.heap.size+1) 0 _ _ DBq6
 have q1:w8.cell? ⟨w.heap.size+1,1,none⟩=some (.slice none 0 0):=cR _ _ _ _ _ _ DBq6
 have F1:w8.frozen? ⟨w.heap.size+1,1,none⟩=false:=fR w8 (w.heap.size+1) 1 _ _ DBq6
 have q2:w8.cell? ⟨w.heap.size+1,2,none⟩=some (.slice none 0 0):=cR _ _ _ _ _ _ DBq6
 have F2:w8.frozen? ⟨w.heap.size+1,2,none⟩=false:=fR w8 (w.heap.size+1) 2 _ _ DBq6
 have y0_8:=hid (bS (bS (bS y0_5.out b6.out) b7.out) b8.out)
 have hS:=y3_8.out
 have hz9:w3.heap.size≤w8.heap.size:=hS.size
 go_simp
 clear q0 F0 q1 F1 q2 F2
 have FV:=hid hv8.out
 have FB:=hid y0_8.out
 obtain ⟨w9,hw⟩:=eX ((((w8.setCell ⟨w.heap.size+1,0,none⟩ (.bool (decide (s.num<0)))).setCell ⟨w.heap.size+1,1,none⟩ (.slice C13 (Vx.len s.num.natAbs) j13)).setCell ⟨w.heap.size+1,2,none⟩ (.slice C14 (Vx.len (below s.den)) j14)))
 have hse9:w9.heap.size=w8.heap.size:=by rw [hw];simp
 obtain ⟨E,OT,LV,BL⟩:=As' DBq6 hw
 rw [←hw]
 clear hw
 have L9:=hid E
 have FB9:=hid (BL _ _ (by omega) FB.out)
 have KVout9:=hid (LV.num hv8.out)
 have s0_9:w9.cell? ⟨w.heap.size,0,none⟩=w3.cell? ⟨w.heap.size,0,none⟩:=(Aa' OT (by omega) (ltl hbl hz9)).trans (hS.cell (p:=⟨w.heap.size,0,none⟩) hbl)
 have s1_9:w9.cell? ⟨w.heap.size,1,none⟩=w3.cell? ⟨w.heap.size,1,none⟩:=(Aa' OT (by omega) (ltl hbl hz9)).trans (hS.cell (p:=⟨w.heap.size,1,none⟩) hbl)
 have s2_9:w9.cell? ⟨w.heap.size,2,none⟩=w3.cell? ⟨w.heap.size,2,none⟩:=(Aa' OT (by omega) (ltl hbl hz9)).trans (hS.cell (p:=⟨w.heap.size,2,none⟩) hbl)
 have s3_9:w9.cell? ⟨w.heap.size,3,none⟩=w3.cell? ⟨w.heap.size,3,none⟩:=(Aa' OT (by omega) (ltl hbl hz9)).trans (hS.cell (p:=⟨w.heap.size,3,none⟩) hbl)
 have s4_9:w9.cell? ⟨w.heap.size,4,none⟩=w3.cell? ⟨w.heap.size,4,none⟩:=(Aa' OT (by omega) (ltl hbl hz9)).trans (hS.cell (p:=⟨w.heap.size,4,none⟩) hbl)
 have s5_9:w9.cell? ⟨w.heap.size,5,none⟩=w3.cell? ⟨w.heap.size,5,none⟩:=(Aa' OT (by omega) (ltl hbl hz9)).trans (hS.cell (p:=⟨w.heap.size,5,none⟩) hbl)
 have s6_9:w9.cell? ⟨w2.heap.size,0,none⟩=w3.cell? ⟨w2.heap.size,0,none⟩:=(Aa' OT (by omega) (ltl hkl hz9)).trans (hS.cell (p:=⟨w2.heap.size,0,none⟩) hkl)
 have s7_9:w9.cell? ⟨w2.heap.size,1,none⟩=w3.cell? ⟨w2.heap.size,1,none⟩:=(Aa' OT (by omega) (ltl hkl hz9)).trans (hS.cell (p:=⟨w2.heap.size,1,none⟩) hkl)
 have s8_9:w9.cell? ⟨w2.heap.size,2,none⟩=w3.cell? ⟨w2.heap.size,2,none⟩:=(Aa' OT (by omega) (ltl hkl hz9)).trans (hS.cell (p:=⟨w2.heap.size,2,none⟩) hkl)
 refine hK.out _ _ ?_ (fun hHeld2=>?_)
 · (try dsimp only)
   exact ⟨s0_9,s1_9,s2_9,s3_9,s4_9,s5_9,s6_9,s7_9,s8_9⟩
 clear hK K hHeld hS OT LV BL FV FB E DBq6
 try simp only [Act.put,lt,ly,lu]
 have hHeld:=hHeld2
 clear hHeld2
 refine wpAnyH_done (by kernel_rfl) ?_ _
 clear hHeld
 have FE:=hid KVout9.out
 have FB:=hid FB9.out
 obtain ⟨r0,r1,r2⟩:=Ae L9.out
 go_wp2_with fail
 refine bP (v:=.agg #[.bool (decide (s.num<0)),.slice C13 (Vx.len s.num.natAbs) j13,.slice C14 (Vx.len (below s.den)) j14]) ?_ rfl ⟨_,rfl,FE.out,FB.out⟩
 simp [results,Tryz.results8,go_sem,r0,r1,r2]
end Go.Proofs.YtcicfnlljdnagaaGreatDoor.Rf
namespace Go.Proofs.YtcicfnlljdnagaaGreatDoor
open Lib (hid)
theorem Eb' {a0 a1 b0 b1 d0 d1:Rat}:cornLo Ap' a0 a1 d0 d1 b0 b1 = - cornHi Ap' a0 a1 b0 b1 d0 d1∧cornHi Ap' a0 a1 d0 d1 b0 b1 = - cornLo Ap' a0 a1 b0 b1 d0 d1:=by
 constructor
 · refine ET ?_ (fun z hz=>?_)
   · obtain ⟨x,hx,y,hy,u,hu,e⟩:=AB.1 (AN (Ap' a0 b0 d0) (AY' Ap' a0 a1 b0 b1 d0 d1)).1
     exact AB.2 ⟨x,hx,u,hu,y,hy,by rw [Cz',e];rfl⟩
   · obtain ⟨x,hx,y,hy,u,hu,rfl⟩:=AB.1 hz
     rw [Cz']
     have:=(AW' (F:=Ap') x hx u hu y hy).2
     grind
 · refine Du' ?_ (fun z hz=>?_)
   · obtain ⟨x,hx,y,hy,u,hu,e⟩:=AB.1 (A7' (Ap' a0 b0 d0) (AY' Ap' a0 a1 b0 b1 d0 d1)).1
     exact AB.2 ⟨x,hx,u,hu,y,hy,by rw [Cz',e];rfl⟩
   · obtain ⟨x,hx,y,hy,u,hu,rfl⟩:=AB.1 hz
     rw [Cz']
     have:=(AW' (F:=Ap') x hx u hu y hy).1
     grind
theorem Do {a0 a1 b0 b1 d0 d1:Rat}:cornLo divisorQ a0 a1 d0 d1 b0 b1=cornLo divisorQ a0 a1 b0 b1 d0 d1∧cornHi divisorQ a0 a1 d0 d1 b0 b1=cornHi divisorQ a0 a1 b0 b1 d0 d1:=by
 refine BX' fun z=>⟨?_,?_⟩
 · rintro ⟨x,hx,y,hy,u,hu,rfl⟩;exact ⟨x,hx,u,hu,y,hy,BY x u y |>.symm.trans (BY x u y ▸ rfl)⟩
 · rintro ⟨x,hx,y,hy,u,hu,rfl⟩;exact ⟨x,hx,u,hu,y,hy,by rw [BY]⟩
theorem CY {x a b:Rat}:x∈[a,b]↔x=a∨x=b:=by simp
theorem DU {a0 a1 b0 b1 d0 d1 p:Rat}:(cornLo Ap' (a0+p) (a1+p) (b0+p) (b1+p) (d0+p) (d1+p)=cornLo Ap' a0 a1 b0 b1 d0 d1∧cornHi Ap' (a0+p) (a1+p) (b0+p) (b1+p) (d0+p) (d1+p)=cornHi Ap' a0 a1 b0 b1 d0 d1) ∧
   (cornLo divisorQ (a0+p) (a1+p) (b0+p) (b1+p) (d0+p) (d1+p)=cornLo divisorQ a0 a1 b0 b1 d0 d1∧cornHi divisorQ (a0+p) (a1+p) (b0+p) (b1+p) (d0+p) (d1+p)=cornHi divisorQ a0 a1 b0 b1 d0 d1):=by
 have up:∀ {x a b:Rat},x∈[a,b]→x+p∈[a+p,b+p]:=fun h=>by rcases CY.1 h with rfl | rfl <;> simp
 have dn:∀ {x a b:Rat},x∈[a+p,b+p]→∃ y∈[a,b],x=y+p:=fun {x a b} h=>by
   rcases CY.1 h with rfl | rfl
   · exact ⟨a,by simp,rfl⟩
   · exact ⟨b,by simp,rfl⟩
 constructor
 · refine BX' fun z=>⟨?_,?_⟩
   · rintro ⟨x,hx,y,hy,u,hu,rfl⟩
     obtain ⟨x,hx2,rfl⟩:=dn hx
     obtain ⟨y,hy2,rfl⟩:=dn hy
     obtain ⟨u,hu2,rfl⟩:=dn hu
     exact ⟨x,hx2,y,hy2,u,hu2,(coef_raise p x y u).symm⟩
   · rintro ⟨x,hx,y,hy,u,hu,rfl⟩;exact ⟨_,up hx,_,up hy,_,up hu,coef_raise p x y u⟩
 · refine BX' fun z=>⟨?_,?_⟩
   · rintro ⟨x,hx,y,hy,u,hu,rfl⟩
     obtain ⟨x,hx2,rfl⟩:=dn hx
     obtain ⟨y,hy2,rfl⟩:=dn hy
     obtain ⟨u,hu2,rfl⟩:=dn hu
     exact ⟨x,hx2,y,hy2,u,hu2,(divisor_raise p x y u).symm⟩
   · rintro ⟨x,hx,y,hy,u,hu,rfl⟩;exact ⟨_,up hx,_,up hy,_,up hu,divisor_raise p x y u⟩
theorem Co' {a b s l h:Rat} (el:leastOf (a*s) [a*s,b*s,b*s]=l) (eh:greatestOf (a*s) [a*s,b*s,b*s]=h):∀ z,z∈[l,h]↔∃ x∈[a,b],z=x*s:=by
 have L:=A7' (a*s) [a*s,b*s,b*s]
 have H:=AN (a*s) [a*s,b*s,b*s]
 rw [el] at L
 rw [eh] at H
 have h1:=L.2 (a*s) (by simp)
 have h2:=L.2 (b*s) (by simp)
 have h3:=H.2 (a*s) (by simp)
 have h4:=H.2 (b*s) (by simp)
 have m1:=L.1
 have m2:=H.1
 simp only [List.mem_cons,List.not_mem_nil,or_false] at m1 m2
 intro z
 rw [CY]
 constructor
 · rintro (rfl | rfl)
   · rcases m1 with e | e | e | e <;> first | exact ⟨a,by simp,e⟩ | exact ⟨b,by simp,e⟩
   · rcases m2 with e | e | e | e <;> first | exact ⟨a,by simp,e⟩ | exact ⟨b,by simp,e⟩
 · rintro ⟨x,hx,rfl⟩
   rcases CY.1 hx with rfl | rfl <;> grind
theorem DU' {a0 a1 b0 b1 d0 d1 s A0 A1 B0 B1 D0 D1:Rat} (hs:s≠0) (hA:∀ z,z∈[A0,A1]↔∃ x∈[a0,a1],z=x*s) (hB:∀ z,z∈[B0,B1]↔∃ x∈[b0,b1],z=x*s) (hD:∀ z,z∈[D0,D1]↔∃ x∈[d0,d1],z=x*s)
   (h0:¬ (cornLo divisorQ a0 a1 b0 b1 d0 d1≤0∧0≤cornHi divisorQ a0 a1 b0 b1 d0 d1)):(cornLo Ap' A0 A1 B0 B1 D0 D1=cornLo Ap' a0 a1 b0 b1 d0 d1∧cornHi Ap' A0 A1 B0 B1 D0 D1=cornHi Ap' a0 a1 b0 b1 d0 d1)∧¬ (cornLo divisorQ A0 A1 B0 B1 D0 D1≤0∧0≤cornHi divisorQ A0 A1 B0 B1 D0 D1):=by
 constructor
 · refine BX' fun z=>⟨?_,?_⟩
   · rintro ⟨x,hx,y,hy,u,hu,rfl⟩
     obtain ⟨x,hx2,rfl⟩:=(hA _).1 hx
     obtain ⟨y,hy2,rfl⟩:=(hB _).1 hy
     obtain ⟨u,hu2,rfl⟩:=(hD _).1 hu
     exact ⟨x,hx2,y,hy2,u,hu2,(DR' hs).symm⟩
   · rintro ⟨x,hx,y,hy,u,hu,rfl⟩
     exact ⟨_,(hA _).2 ⟨x,hx,rfl⟩,_,(hB _).2 ⟨y,hy,rfl⟩,_,(hD _).2 ⟨u,hu,rfl⟩,DR' hs⟩
 · rintro ⟨h1,h2⟩
   obtain ⟨x,hx,y,hy,u,hu,e⟩:=AB.1 (A7' (divisorQ A0 B0 D0) (AY' divisorQ A0 A1 B0 B1 D0 D1)).1
   obtain ⟨x',hx',y',hy',u',hu',e'⟩:=AB.1 (AN (divisorQ A0 B0 D0) (AY' divisorQ A0 A1 B0 B1 D0 D1)).1
   change divisorQ x y u=cornLo divisorQ A0 A1 B0 B1 D0 D1 at e
   change divisorQ x' y' u'=cornHi divisorQ A0 A1 B0 B1 D0 D1 at e'
   rw [←e] at h1
   rw [←e'] at h2
   obtain ⟨x,kx,rfl⟩:=(hA _).1 hx
   obtain ⟨y,ky,rfl⟩:=(hB _).1 hy
   obtain ⟨u,ku,rfl⟩:=(hD _).1 hu
   obtain ⟨x',kx',rfl⟩:=(hA _).1 hx'
   obtain ⟨y',ky',rfl⟩:=(hB _).1 hy'
   obtain ⟨u',ku',rfl⟩:=(hD _).1 hu'
   rw [C0] at h1 h2
   have k1:=AW' (F:=divisorQ) x kx y ky u ku
   have k2:=AW' (F:=divisorQ) x' kx' y' ky' u' ku'
   by_cases hm:cornLo divisorQ a0 a1 b0 b1 d0 d1≤0
   · have hM:cornHi divisorQ a0 a1 b0 b1 d0 d1<0:=by grind
     have n1:divisorQ x y u<0:=by grind
     have n2:divisorQ x' y' u'<0:=by grind
     rcases Rat.le_total (a:=0) (b:=s) with hp | hp
     · have h5:=Rat.mul_pos (show 0 < -divisorQ x' y' u' by grind) (show 0<s by grind)
       grind
     · have h5:=Rat.mul_pos (show 0 < -divisorQ x y u by grind) (show 0 < -s by grind)
       grind
   · have n1:0<divisorQ x y u:=by grind
     have n2:0<divisorQ x' y' u':=by grind
     rcases Rat.le_total (a:=0) (b:=s) with hp | hp
     · have h5:=Rat.mul_pos n1 (show 0<s by grind)
       grind
     · have h5:=Rat.mul_pos n2 (show 0 < -s by grind)
       grind
theorem Hg {a0 a1 b0 b1 d0 d1 x y z:Rat} (hx:a0≤x∧x≤a1) (hy:b0≤y∧y≤b1) (hz:d0≤z∧z≤d1) (h0:¬ (cornLo divisorQ a0 a1 b0 b1 d0 d1≤0∧0≤cornHi divisorQ a0 a1 b0 b1 d0 d1)) :
   (cornLo Ap' a0 a1 b0 b1 d0 d1≤Ap' x y z∧Ap' x y z≤cornHi Ap' a0 a1 b0 b1 d0 d1)∧divisorQ x y z≠0:=by
 refine ⟨HY' hx hy hz AW' h0 AW',fun e=>?_⟩
 have:=DQ' hx hy hz (AW' (F:=divisorQ))
 rw [e] at this
 exact h0 this
end Go.Proofs.YtcicfnlljdnagaaGreatDoor
