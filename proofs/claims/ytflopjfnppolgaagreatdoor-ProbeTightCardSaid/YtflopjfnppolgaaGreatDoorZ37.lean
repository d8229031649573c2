/-
  Contracts of the functions that the law calls, for every input (Qi Qp QI Late).
-/
import Derived.Test.YtflopjfnppolgaaGreatDoorZ00
import Derived.Test.YtflopjfnppolgaaGreatDoorZ36
import Derived.Test.YtflopjfnppolgaaGreatDoorZ31
import Derived.Deep.RegionHeld3
set_option linter.all false
set_option maxRecDepth 100000
set_option maxHeartbeats 40000000
namespace Go.Proofs.YtflopjfnppolgaaGreatDoor.Rf
open Lib (hid)
open Go.RowKit
open Rx
open Vx (Aa' Ai Ai')
open List renaming getElem?_toArray → lg, getElem?_cons_zero → lz, getElem?_cons_succ → ls, setIfInBounds_toArray → lt, set_cons_zero → ly, set_cons_succ → lu
theorem Bk {x a b:Rat} {N:Nat} (h:x∈[a,b]) (ha:Aa' a≤N) (hb:Aa' b≤N):Aa' x≤N:=by
 simp only [List.mem_cons,List.not_mem_nil,or_false] at h
 rcases h with rfl | rfl
 · exact ha
 · exact hb
theorem IG:Aa' 1≤3:=by decide
theorem H5' (y x g:Rat):Aa' (BG y x g)≤Aa' y+Aa' x+Aa' g+Aa' g+9:=by
 unfold BG
 have h1:=Vx.AC' 1 g
 have h2:=Vx.B0' y (1 - g)
 have h3:=Vx.B0' g x
 have h4:=Vx.A9' (y*(1 - g)) (g*x)
 have h5:=IG
 omega
theorem G9' (u v g:Rat):Aa' (Bo' u v g)≤Aa' u+Aa' u+Aa' v+Aa' g+9:=by
 unfold Bo'
 have h1:=Vx.AC' v u
 have h2:=Vx.AZ (v - u) g
 have h3:=Vx.A9' u ((v - u) / g)
 omega
theorem DY {F:Rat→Rat→Rat→Rat} {a0 a1 b0 b1 c0 c1:Rat} {N:Nat} (h:∀ x∈[a0,a1],∀ y∈[b0,b1],∀ z∈[c0,c1],Aa' (F x y z)≤N):∀ q∈F a0 b0 c0::Ct F a0 a1 b0 b1 c0 c1,Aa' q≤N:=by
 intro q hq
 obtain ⟨x,hx,y,hy,z,hz,rfl⟩:=Gl'.1 hq
 exact h x hx y hy z hz
theorem EO:Go.Proofs.Enters Tryz.prog 106:=Go.Proofs.enters_of Tryz.func106 (by kernel_rfl) rfl
theorem FE':Go.Proofs.Enters Tryz.prog 108:=Go.Proofs.enters_of Tryz.func108 (by kernel_rfl) rfl
theorem Gr {w:World} {v vy vx:Value} {a b r y0 y1 x0 x1 lo hi:Rat} (hp:AA' w v a b r) (hy:Ao' w vy y0 y1) (hx:Ao' w vx x0 x1) (sy:Aa' y0≤8000000∧Aa' y1≤8000000) (sx:Aa' x0≤1000000∧Aa' x1≤1000000) (sg:Aa' a≤1000000∧Aa' b≤1000000) (el:CB BG y0 y1 x0 x1 a b=lo) (eh:CB' BG y0 y1 x0 x1 a b=hi) :
   Calls Tryz.prog 66 #[v,vy,vx] w (Bt' w lo hi):=by
 have sF:∀ q∈BG y0 x0 a::Ct BG y0 y1 x0 x1 a b,Aa' q≤16777216:=DY fun x hx y hy z hz=>by
   have h1:=Bk hx sy.1 sy.2
   have h2:=Bk hy sx.1 sx.2
   have h3:=Bk hz sg.1 sg.2
   have:=H5' x y z
   omega
 have sy':Aa' y0≤16777216∧Aa' y1≤16777216:=⟨by omega,by omega⟩
 have sx':Aa' x0≤16777216∧Aa' x1≤16777216:=⟨by omega,by omega⟩
 have sg':Aa' a≤16777216∧Aa' b≤16777216:=⟨by omega,by omega⟩
 replace sF:=hid sF
 replace sy':=hid sy'
 replace sx':=hid sx'
 replace sg':=hid sg'
 replace el:=hid el
 replace eh:=hid eh
 obtain ⟨C1,j1,C2,j2,C3,j3,C4,j4,C5,j5,C6,j6,rfl,hpg,hpe⟩:=id hp.opened
 replace hp:=hid hp
 replace hpg:=hid hpg
 replace hpe:=hid hpe
 obtain ⟨C7,j7,C8,j8,C9,j9,C10,j10,rfl,-,-⟩:=id hy.opened
 replace hy:=hid hy
 obtain ⟨C11,j11,C12,j12,C13,j13,C14,j14,rfl,-,-⟩:=id hx.opened
 replace hx:=hid hx
 obtain ⟨w1,hw1⟩:=eX (((((w.alloc (.cells #[.bool (decide (a.num<0)),.slice C1 (Vx.len a.num.natAbs) j1,.slice C2 (Vx.len (below a.den)) j2,.bool (decide (b.num<0)),.slice C3 (Vx.len b.num.natAbs) j3,.slice C4 (Vx.len (below b.den)) j4,.bool (decide (r.num<0)),.slice C5 (Vx.len r.num.natAbs) j5,.slice C6 (Vx.len (below r.den)) j6] 39)).alloc (.cells #[.bool (decide (y0.num<0)),.slice C7 (Vx.len y0.num.natAbs) j7,.slice C8 (Vx.len (below y0.den)) j8,.bool (decide (y1.num<0)),.slice C9 (Vx.len y1.num.natAbs) j9,.slice C10 (Vx.len (below y1.den)) j10] 37)).alloc (.cells #[.bool (decide (x0.num<0)),.slice C11 (Vx.len x0.num.natAbs) j11,.slice C12 (Vx.len (below x0.den)) j12,.bool (decide (x1.num<0)),.slice C13 (Vx.len x1.num.natAbs) j13,.slice C14 (Vx.len (below x1.den)) j14] 37)).alloc (.cells #[.bool false,.slice none 0 0,.slice none 0 0,.bool false,.slice none 0 0,.slice none 0 0] 37)))
 obtain ⟨b1,g1,g2,g3,g4⟩:=DX' w (.cells #[.bool (decide (a.num<0)),.slice C1 (Vx.len a.num.natAbs) j1,.slice C2 (Vx.len (below a.den)) j2,.bool (decide (b.num<0)),.slice C3 (Vx.len b.num.natAbs) j3,.slice C4 (Vx.len (below b.den)) j4,.bool (decide (r.num<0)),.slice C5 (Vx.len r.num.natAbs) j5,.slice C6 (Vx.len (below r.den)) j6] 39) (.cells #[.bool (decide (y0.num<0)),.slice C7 (Vx.len y0.num.natAbs) j7,.slice C8 (Vx.len (below y0.den)) j8,.bool (decide (y1.num<0)),.slice C9 (Vx.len y1.num.natAbs) j9,.slice C10 (Vx.len (below y1.den)) j10] 37) (.cells #[.bool (decide (x0.num<0)),.slice C11 (Vx.len x0.num.natAbs) j11,.slice C12 (Vx.len (below x0.den)) j12,.bool (decide (x1.num<0)),.slice C13 (Vx.len x1.num.natAbs) j13,.slice C14 (Vx.len (below x1.den)) j14] 37) (.cells #[.bool false,.slice none 0 0,.slice none 0 0,.bool false,.slice none 0 0,.slice none 0 0] 37)
 rw [←hw1] at b1 g1 g2 g3 g4
 replace g1:=hid g1
 replace g2:=hid g2
 replace g3:=hid g3
 replace g4:=hid g4
 replace b1:=hid b1
 go_enter Tryz.func66,Tryz.ntmps66
 go_upto_region 1 with fail
 rw [←hw1]
 clear hw1
 have hg:w1.heap[w.heap.size]?=some (.cells #[.bool (decide (a.num<0)),.slice C1 (Vx.len a.num.natAbs) j1,.slice C2 (Vx.len (below a.den)) j2,.bool (decide (b.num<0)),.slice C3 (Vx.len b.num.natAbs) j3,.slice C4 (Vx.len (below b.den)) j4,.bool (decide (r.num<0)),.slice C5 (Vx.len r.num.natAbs) j5,.slice C6 (Vx.len (below r.den)) j6] 39 (0,0)):=((Below.refl _ w1).block _ (gE.1 g1.out).1).trans g1.out
 have z_p_0:w1.cell? ⟨w.heap.size,0,none⟩=some (.bool (decide (a.num<0))):=cR _ _ _ _ _ _ hg
 have z_p_1:w1.cell? ⟨w.heap.size,1,none⟩=some (.slice C1 (Vx.len a.num.natAbs) j1):=cR _ _ _ _ _ _ hg
 have z_p_2:w1.cell? ⟨w.heap.size,2,none⟩=some (.slice C2 (Vx.len (below a.den)) j2):=cR _ _ _ _ _ _ hg
 have z_p_3:w1.cell? ⟨w.heap.size,3,none⟩=some (.bool (decide (b.num<0))):=cR _ _ _ _ _ _ hg
 have z_p_4:w1.cell? ⟨w.heap.size,4,none⟩=some (.slice C3 (Vx.len b.num.natAbs) j3):=cR _ _ _ _ _ _ hg
 have z_p_5:w1.cell? ⟨w.heap.size,5,none⟩=some (.slice C4 (Vx.len (below b.den)) j4):=cR _ _ _ _ _ _ hg
 have z_p_6:w1.cell? ⟨w.heap.size,6,none⟩=some (.bool (decide (r.num<0))):=cR _ _ _ _ _ _ hg
 have z_p_7:w1.cell? ⟨w.heap.size,7,none⟩=some (.slice C5 (Vx.len r.num.natAbs) j5):=cR _ _ _ _ _ _ hg
 have z_p_8:w1.cell? ⟨w.heap.size,8,none⟩=some (.slice C6 (Vx.len (below r.den)) j6):=cR _ _ _ _ _ _ hg
 clear hg
 obtain ⟨z_y_0,z_y_1,z_y_2,z_y_3,z_y_4,z_y_5⟩:=Aj g2.out
 obtain ⟨z_x_0,z_x_1,z_x_2,z_x_3,z_x_4,z_x_5⟩:=Aj g3.out
 have HX:=hid (Dw' (F:=BG) (fn:=106) (cap:=#[]) EO (fun u vx vy vz x y z hb mx my mz i j k=>Ej i j k (Bk mx sy'.out.1 sy'.out.2) (Bk my sx'.out.1 sx'.out.2) (Bk mz sg'.out.1 sg'.out.2)) (hy.out.keep b1.out) (hx.out.keep b1.out) (hpg.out.keep b1.out) sy'.out sx'.out sg'.out sF.out el.out eh.out)
 go_wp2_with fail
 refine (HX.out).mono ?_
 rintro e w2 ⟨v2,rfl,hv2,b2⟩
 obtain ⟨C15,j15,C16,j16,C17,j17,C18,j18,rfl,-,-,-,-⟩:=id hv2.opened
 replace hv2:=hid hv2
 replace b2:=hid b2
 clear HX
 have DR:=(Ab' g4.out b2.out)
 have q0:w2.cell? ⟨w.heap.size+3,0,none⟩=some (.bool false):=cR _ _ _ _ _ _ DR
 have F0:w2.frozen? ⟨w.heap.size+3,0,none⟩=false:=fR w2 (w.heap.size+3) 0 _ _ DR
 have q1:w2.cell? ⟨w.heap.size+3,1,none⟩=some (.slice none 0 0):=cR _ _ _ _ _ _ DR
 have F1:w2.frozen? ⟨w.heap.size+3,1,none⟩=false:=fR w2 (w.heap.size+3) 1 _ _ DR
 have q2:w2.cell? ⟨w.heap.size+3,2,none⟩=some (.slice none 0 0):=cR _ _ _ _ _ _ DR
 have F2:w2.frozen? ⟨w.heap.size+3,2,none⟩=false:=fR w2 (w.heap.size+3) 2 _ _ DR
 have q3:w2.cell? ⟨w.heap.size+3,3,none⟩=some (.bool false):=cR _ _ _ _ _ _ DR
 have F3:w2.frozen? ⟨w.heap.size+3,3,none⟩=false:=fR w2 (w.heap.size+3) 3 _ _ DR
 have q4:w2.cell? ⟨w.heap.size+3,4,none⟩=some (.slice none 0 0):=cR _ _ _ _ _ _ DR
 have F4:w2.frozen? ⟨w.heap.size+3,4,none⟩=false:=fR w2 (w.heap.size+3) 4 _ _ DR
 have q5:w2.cell? ⟨w.heap.size+3,5,none⟩=some (.slice none 0 0):=cR _ _ _ _ _ _ DR
 have F5:w2.frozen? ⟨w.heap.size+3,5,none⟩=false:=fR w2 (w.heap.size+3) 5 _ _ DR
 have y0_2:=hid (bS b1.out b2.out)
 have FB:=y0_2.out
 have FV:=hv2.out
 obtain ⟨ue,hw⟩:=eX (((((((w2.setCell ⟨w.heap.size+3,0,none⟩ (.bool (decide (lo.num<0)))).setCell ⟨w.heap.size+3,1,none⟩ (.slice C15 (Vx.len lo.num.natAbs) j15)).setCell ⟨w.heap.size+3,2,none⟩ (.slice C16 (Vx.len (below lo.den)) j16)).setCell ⟨w.heap.size+3,3,none⟩ (.bool (decide (hi.num<0)))).setCell ⟨w.heap.size+3,4,none⟩ (.slice C17 (Vx.len hi.num.natAbs) j17)).setCell ⟨w.heap.size+3,5,none⟩ (.slice C18 (Vx.len (below hi.den)) j18)))
 obtain ⟨E_ue,-,LV,BL⟩:=AF DR hw
 have FE:=hid (LV.box FV)
 replace FB:=hid (BL _ _ (by omega) FB)
 replace E_ue:=hid E_ue
 replace hw:=hid hw
 clear DR FV LV BL
 go_wp2_with fail
 rw [←hw.out]
 obtain ⟨r0,r1,r2,r3,r4,r5⟩:=Aj E_ue.out
 refine bP (v:=.agg #[.bool (decide (lo.num<0)),.slice C15 (Vx.len lo.num.natAbs) j15,.slice C16 (Vx.len (below lo.den)) j16,.bool (decide (hi.num<0)),.slice C17 (Vx.len hi.num.natAbs) j17,.slice C18 (Vx.len (below hi.den)) j18]) ?_ rfl ⟨_,rfl,FE.out,FB.out⟩
 simp [results,Tryz.results66,go_sem,r0,r1,r2,r3,r4,r5]
theorem H6 {w:World} {w0 vx vy:Value} {a b r x y lo hi:Rat} (hp:AA' w w0 a b r) (hx:Ac' w vx x) (hy:Ac' w vy y) (su:Aa' x≤1000000) (sv:Aa' y≤1000000) (sr:Aa' r≤1000000) (sg:Aa' a≤1000000∧Aa' b≤1000000) (h0:0≤r) (el:CB Bo' (x - r) (x+r) (y - r) (y+r) a b=lo) (eh:CB' Bo' (x - r) (x+r) (y - r) (y+r) a b=hi) :
   Calls Tryz.prog 68 #[w0,vx,vy] w (Bt' w lo hi):=by
 obtain ⟨u0,eu0⟩:=eY (x - r:Rat)
 obtain ⟨u1,eu1⟩:=eY (x+r:Rat)
 obtain ⟨v0,ev0⟩:=eY (y - r:Rat)
 obtain ⟨v1,ev1⟩:=eY (y+r:Rat)
 rw [eu0,eu1,ev0,ev1] at el eh
 have s1:Aa' u0≤2000001:=by rw [←eu0];have:=Vx.AC' x r;omega
 have s2:Aa' u1≤2000001:=by rw [←eu1];have:=Vx.A9' x r;omega
 have s3:Aa' v0≤2000001:=by rw [←ev0];have:=Vx.AC' y r;omega
 have s4:Aa' v1≤2000001:=by rw [←ev1];have:=Vx.A9' y r;omega
 have sF:∀ q∈Bo' u0 v0 a::Ct Bo' u0 u1 v0 v1 a b,Aa' q≤16777216:=DY fun x hx y hy z hz=>by
   have h1:=Bk hx s1 s2
   have h2:=Bk hy s3 s4
   have h3:=Bk hz sg.1 sg.2
   have:=G9' x y z
   omega
 have su':Aa' u0≤16777216∧Aa' u1≤16777216:=⟨by omega,by omega⟩
 have sv':Aa' v0≤16777216∧Aa' v1≤16777216:=⟨by omega,by omega⟩
 have sg':Aa' a≤16777216∧Aa' b≤16777216:=⟨by omega,by omega⟩
 have ku:Aa' x≤4000000:=by omega
 have kv:Aa' y≤4000000:=by omega
 have kr:Aa' r≤4000000:=by omega
 replace sF:=hid sF
 replace su':=hid su'
 replace sv':=hid sv'
 replace sg':=hid sg'
 replace el:=hid el
 replace eh:=hid eh
 replace ku:=hid ku
 replace kv:=hid kv
 replace kr:=hid kr
 replace h0:=hid h0
 replace eu0:=hid eu0
 replace eu1:=hid eu1
 replace ev0:=hid ev0
 replace ev1:=hid ev1
 obtain ⟨C1,j1,C2,j2,C3,j3,C4,j4,C5,j5,C6,j6,rfl,hpg,hpe⟩:=id hp.opened
 replace hp:=hid hp
 replace hpg:=hid hpg
 replace hpe:=hid hpe
 obtain ⟨C7,j7,C8,j8,rfl,-,-⟩:=id hx.opened
 replace hx:=hid hx
 obtain ⟨C9,j9,C10,j10,rfl,-,-⟩:=id hy.opened
 replace hy:=hid hy
 obtain ⟨w1,hw1⟩:=eX (((((w.alloc (.cells #[.bool (decide (a.num<0)),.slice C1 (Vx.len a.num.natAbs) j1,.slice C2 (Vx.len (below a.den)) j2,.bool (decide (b.num<0)),.slice C3 (Vx.len b.num.natAbs) j3,.slice C4 (Vx.len (below b.den)) j4,.bool (decide (r.num<0)),.slice C5 (Vx.len r.num.natAbs) j5,.slice C6 (Vx.len (below r.den)) j6] 39)).alloc (.cells #[.bool (decide (x.num<0)),.slice C7 (Vx.len x.num.natAbs) j7,.slice C8 (Vx.len (below x.den)) j8] 35)).alloc (.cells #[.bool (decide (y.num<0)),.slice C9 (Vx.len y.num.natAbs) j9,.slice C10 (Vx.len (below y.den)) j10] 35)).alloc (.cells #[.bool false,.slice none 0 0,.slice none 0 0,.bool false,.slice none 0 0,.slice none 0 0] 37)))
 obtain ⟨b1,g1,g2,g3,g4⟩:=DX' w (.cells #[.bool (decide (a.num<0)),.slice C1 (Vx.len a.num.natAbs) j1,.slice C2 (Vx.len (below a.den)) j2,.bool (decide (b.num<0)),.slice C3 (Vx.len b.num.natAbs) j3,.slice C4 (Vx.len (below b.den)) j4,.bool (decide (r.num<0)),.slice C5 (Vx.len r.num.natAbs) j5,.slice C6 (Vx.len (below r.den)) j6] 39) (.cells #[.bool (decide (x.num<0)),.slice C7 (Vx.len x.num.natAbs) j7,.slice C8 (Vx.len (below x.den)) j8] 35) (.cells #[.bool (decide (y.num<0)),.slice C9 (Vx.len y.num.natAbs) j9,.slice C10 (Vx.len (below y.den)) j10] 35) (.cells #[.bool false,.slice none 0 0,.slice none 0 0,.bool false,.slice none 0 0,.slice none 0 0] 37)
 rw [←hw1] at b1 g1 g2 g3 g4
 replace g1:=hid g1
 replace g2:=hid g2
 replace g3:=hid g3
 replace g4:=hid g4
 replace b1:=hid b1
 go_enter Tryz.func68,Tryz.ntmps68
 go_upto_region 2 with fail
 rw [←hw1]
 clear hw1
 go_wp2_with fail
 have HSZa:Hid ((w.heap.size+3)≤w1.heap.size):=hid (by have:=Al' g4.out;omega)
 have hg:w1.heap[w.heap.size]?=some (.cells #[.bool (decide (a.num<0)),.slice C1 (Vx.len a.num.natAbs) j1,.slice C2 (Vx.len (below a.den)) j2,.bool (decide (b.num<0)),.slice C3 (Vx.len b.num.natAbs) j3,.slice C4 (Vx.len (below b.den)) j4,.bool (decide (r.num<0)),.slice C5 (Vx.len r.num.natAbs) j5,.slice C6 (Vx.len (below r.den)) j6] 39 (0,0)):=((Below.refl _ w1).block _ (gE.1 g1.out).1).trans g1.out
 have z_p_0:w1.cell? ⟨w.heap.size,0,none⟩=some (.bool (decide (a.num<0))):=cR _ _ _ _ _ _ hg
 have z_p_1:w1.cell? ⟨w.heap.size,1,none⟩=some (.slice C1 (Vx.len a.num.natAbs) j1):=cR _ _ _ _ _ _ hg
 have z_p_2:w1.cell? ⟨w.heap.size,2,none⟩=some (.slice C2 (Vx.len (below a.den)) j2):=cR _ _ _ _ _ _ hg
 have z_p_3:w1.cell? ⟨w.heap.size,3,none⟩=some (.bool (decide (b.num<0))):=cR _ _ _ _ _ _ hg
 have z_p_4:w1.cell? ⟨w.heap.size,4,none⟩=some (.slice C3 (Vx.len b.num.natAbs) j3):=cR _ _ _ _ _ _ hg
 have z_p_5:w1.cell? ⟨w.heap.size,5,none⟩=some (.slice C4 (Vx.len (below b.den)) j4):=cR _ _ _ _ _ _ hg
 have z_p_6:w1.cell? ⟨w.heap.size,6,none⟩=some (.bool (decide (r.num<0))):=cR _ _ _ _ _ _ hg
 have z_p_7:w1.cell? ⟨w.heap.size,7,none⟩=some (.slice C5 (Vx.len r.num.natAbs) j5):=cR _ _ _ _ _ _ hg
 have z_p_8:w1.cell? ⟨w.heap.size,8,none⟩=some (.slice C6 (Vx.len (below r.den)) j6):=cR _ _ _ _ _ _ hg
 clear hg
 have hlta_p:w.heap.size<(w.heap.size+3):=by omega
 obtain ⟨z_x_0,z_x_1,z_x_2⟩:=Ad' g2.out
 have hlta_x:w.heap.size+1<(w.heap.size+3):=by omega
 obtain ⟨z_y_0,z_y_1,z_y_2⟩:=Ad' g3.out
 have hlta_y:w.heap.size+2<(w.heap.size+3):=by omega
 have H0:=Ah'.start w1 (w.heap.size+3)
 have H0':=H0
 unfold Ah' at H0'
 refine wp_region_held_drew (S:=(fun w'=>(∀ b o,b<(w.heap.size+3)→w'.cell? ⟨b,o,none⟩=w1.cell? ⟨b,o,none⟩)∧Below ((w.heap.size+3)) w1 w'∧An' w1 w')) (by kernel_rfl) ?_ (fun hHeld=>?_)
 · (try dsimp only)
   exact H0'
 obtain ⟨w2,hw2⟩:=eX w1.drew
 have b2:Hid (Below w1.heap.size w1 w2):=by rw [hw2];exact ⟨rfl,rfl,rfl,nL _,fun _ _=>rfl⟩
 rw [←hw2] at hHeld H0 ⊢
 clear hw2 H0'
 refine tk (i:=0) (h:=?_)
 try simp only [Act.put,lt,ly,lu]
 refine tk (i:=1) (h:=?_)
 try simp only [Act.put,lt,ly,lu]
 refine tk (i:=2) (h:=?_)
 try simp only [Act.put,lt,ly,lu]
 refine tk (i:=3) (h:=?_)
 try simp only [Act.put,lt,ly,lu]
 refine tk (i:=5) (h:=?_)
 try simp only [Act.put,lt,ly,lu]
 refine tk (i:=6) (h:=?_)
 try simp only [Act.put,lt,ly,lu]
 refine tk (i:=7) (h:=?_)
 try simp only [Act.put,lt,ly,lu]
 refine tk (i:=9) (h:=?_)
 try simp only [Act.put,lt,ly,lu]
 refine tk (i:=10) (h:=?_)
 try simp only [Act.put,lt,ly,lu]
 have y0_2:=hid (bS b1.out b2.out)
 refine rdz (i:=4) (h:=fun K hK=>?_);go_simp;go_at_call 37
 refine ((show Calls _ _ _ _ (Bt' _ u0 u1) from eu0.out ▸ eu1.out ▸ C2' (hx.out.keep y0_2.out) (hpe.out.keep y0_2.out) ku.out kr.out h0.out)).mono ?_
 rintro e w3 ⟨v3,rfl,hv3,b3⟩
 obtain ⟨C11,j11,C12,j12,C13,j13,C14,j14,rfl,-,-,-,-⟩:=id hv3.opened
 replace hv3:=hid hv3
 replace b3:=hid b3
 have hk3:=Av' H0 HSZa b3.out;clear hHeld H0
 refine hK.out _ _ (by (try dsimp only);with_reducible exact hun hk3) (fun hHeld=>?_)
 clear hK K;try simp only [Act.put,lt,ly,lu]
 have y0_3:=hid (bS y0_2.out b3.out)
 refine rdz (i:=8) (h:=fun K hK=>?_);go_simp;go_at_call 37
 refine ((show Calls _ _ _ _ (Bt' _ v0 v1) from ev0.out ▸ ev1.out ▸ C2' (hy.out.keep y0_3.out) (hpe.out.keep y0_3.out) kv.out kr.out h0.out)).mono ?_
 rintro e w4 ⟨v4,rfl,hv4,b4⟩
 obtain ⟨C15,j15,C16,j16,C17,j17,C18,j18,rfl,-,-,-,-⟩:=id hv4.opened
 replace hv4:=hid hv4
 replace b4:=hid b4
 have hk4:=Av' hk3 HSZa b4.out;clear hHeld hk3
 refine hK.out _ _ (by (try dsimp only);with_reducible exact hun hk4) (fun hHeld=>?_)
 clear hK K;try simp only [Act.put,lt,ly,lu]
 have y0_4:=hid (bS y0_3.out b4.out)
 refine rdz (i:=11) (h:=fun K hK=>?_);go_simp;go_at_call 107
 refine (Dw' (F:=Bo') (fn:=108) (cap:=#[]) FE' (fun u vx vy vz x y z hb mx my mz i j k=>EN' i j k (Bk mx su'.out.1 su'.out.2) (Bk my sv'.out.1 sv'.out.2) (Bk mz sg'.out.1 sg'.out.2)) (hv3.out.keep b4.out) hv4.out (hpg.out.keep y0_4.out) su'.out sv'.out sg'.out sF.out el.out eh.out).mono ?_
 rintro e w5 ⟨v5,rfl,hv5,b5⟩
 obtain ⟨C19,j19,C20,j20,C21,j21,C22,j22,rfl,-,-,-,-⟩:=id hv5.opened
 replace hv5:=hid hv5
 replace b5:=hid b5
 have hk5:=Av' hk4 HSZa b5.out;clear hHeld hk4
 refine hK.out _ _ (by (try dsimp only);with_reducible exact hun hk5) (fun hHeld=>?_)
 clear hK K;try simp only [Act.put,lt,ly,lu]
 have y1_5:=hid (bS (bS (bS b2.out b3.out) b4.out) b5.out)
 have Dq13:=(Ab' g4.out y1_5.out)
 refine rdz (i:=12) (h:=fun K hK=>?_)
 have q0:w5.cell? ⟨w.heap.size+3,0,none⟩=some (.bool false):=cR _ _ _ _ _ _ Dq13
 have F0:w5.frozen? ⟨w.heap.size+3,0,none⟩=false:=fR w5 (w.heap.size+3) 0 _ _ Dq13
 have q1:w5.cell? ⟨w.heap.size+3,1,none⟩=some (.slice none 0 0):=cR _ _ _ _ _ _ Dq13
 have F1:w5.frozen? ⟨w.heap.size+3,1,none⟩=false:=fR w5 (w.heap.size+3) 1 _ _ Dq13
 have q2:w5.cell? ⟨w.heap.size+3,2,none⟩=some (.slice none 0 0):=cR _ _ _ _ _ _ Dq13
 have F2:w5.frozen? ⟨w.heap.size+3,2,none⟩=false:=fR w5 (w.heap.size+3) 2 _ _ Dq13
 have q3:w5.cell? ⟨w.heap.size+3,3,none⟩=some (.bool false):=cR _ _ _ _ _ _ Dq13
 have F3:w5.frozen? ⟨w.heap.size+3,3,none⟩=false:=fR w5 (w.heap.size+3) 3 _ _ Dq13
 have q4:w5.cell? ⟨w.heap.size+3,4,none⟩=some (.slice none 0 0):=cR _ _ _ _ _ _ Dq13
 have F4:w5.frozen? ⟨w.heap.size+3,4,none⟩=false:=fR w5 (w.heap.size+3) 4 _ _ Dq13
 have q5:w5.cell? ⟨w.heap.size+3,5,none⟩=some (.slice none 0 0):=cR _ _ _ _ _ _ Dq13
 have F5:w5.frozen? ⟨w.heap.size+3,5,none⟩=false:=fR w5 (w.heap.size+3) 5 _ _ Dq13
 replace Dq13:=hid Dq13
 go_simp
 clear q0 F0 q1 F1 q2 F2 q3 F3 q4 F4 q5 F5
 have y0_5:=hid (bS y0_4.out b5.out)
 have FB:=hid y0_5.out
 have FV:=hid hv5.out
 obtain ⟨ue,hw⟩:=eX (((((((w5.setCell ⟨w.heap.size+3,0,none⟩ (.bool (decide (lo.num<0)))).setCell ⟨w.heap.size+3,1,none⟩ (.slice C19 (Vx.len lo.num.natAbs) j19)).setCell ⟨w.heap.size+3,2,none⟩ (.slice C20 (Vx.len (below lo.den)) j20)).setCell ⟨w.heap.size+3,3,none⟩ (.bool (decide (hi.num<0)))).setCell ⟨w.heap.size+3,4,none⟩ (.slice C21 (Vx.len hi.num.natAbs) j21)).setCell ⟨w.heap.size+3,5,none⟩ (.slice C22 (Vx.len (below hi.den)) j22)))
 obtain ⟨E_ue,OT,LV,BL⟩:=AF Dq13.out hw
 rw [←hw]
 clear hw
 replace E_ue:=hid E_ue
 have FE:=hid (LV.box FV.out)
 replace FB:=hid (BL _ _ (by omega) FB.out)
 have HKE:=hk5
 refine hK.out _ _ ?_ (fun hHeld2=>?_)
 · (try dsimp only)
   exact ⟨fun b o hb=>(Au (BL (w.heap.size+3) _ (by omega) hk5.2.1)) b o hb,BL (w.heap.size+3) _ (by omega) hk5.2.1,A7' hk5.2.2 LV⟩
 clear hK K hHeld OT LV BL HKE
 try simp only [Act.put,lt,ly,lu]
 have hHeld:=hHeld2
 clear hHeld2
 refine wpAnyH_done (by kernel_rfl) ?_ _
 clear hHeld
 obtain ⟨r0,r1,r2,r3,r4,r5⟩:=Aj E_ue.out
 go_wp2_with fail
 refine bP (v:=.agg #[.bool (decide (lo.num<0)),.slice C19 (Vx.len lo.num.natAbs) j19,.slice C20 (Vx.len (below lo.den)) j20,.bool (decide (hi.num<0)),.slice C21 (Vx.len hi.num.natAbs) j21,.slice C22 (Vx.len (below hi.den)) j22]) ?_ rfl ⟨_,rfl,FE.out,FB.out⟩
 simp [results,Tryz.results68,go_sem,r0,r1,r2,r3,r4,r5]
def Gr' (w:World) (ox:Obj) (x:Rat) (P k:Nat) (wr:World):Prop :=
  wr.heap[w.heap.size]?=some ox∧wr.heap[w.heap.size+1]?=some (.cells #[.bool false,.slice none 0 0,.slice none 0 0] 35 (0,0))∧(∃ A1 c1 B1 d1,wr.heap[P]?=some (.cells #[.bool (decide ((x^k).num<0)),.slice A1 (Vx.len (x^k).num.natAbs) c1,.slice B1 (Vx.len (below (x^k).den)) d1] 35 (0,0))∧Ac' wr (.agg #[.bool (decide ((x^k).num<0)),.slice A1 (Vx.len (x^k).num.natAbs) c1,.slice B1 (Vx.len (below (x^k).den)) d1]) (x^k))∧Below w.heap.size w wr
theorem DG' (x:Rat) (k:Nat):Aa' (x^k)≤Aa' x*k+3:=by
 induction k with
 | zero=>rw [Rat.pow_zero];exact nT (show Aa' 1≤3 by decide) (by omega)
 | succ k ih =>
   rw [Rat.pow_succ]
   have:=Vx.B0' (x^k) x
   rw [Nat.mul_succ]
   omega
theorem Ha {w:World} {vx:Value} {x y:Rat} {n:Nat} (hx:Ac' w vx x) (hn:n≤200) (sx:Aa' x≤1000000) (er:x^n=y) :
   Calls Tryz.prog 39 #[vx,.int .i64 ((n:Nat):Int)] w (Az' w y):=by
 obtain ⟨o,eo⟩:=eY (((1:Int):Rat):Rat)
 have e0:x^0=o:=by rw [←eo,Rat.pow_zero];rfl
 have kx:Aa' x≤536870912:=by omega
 replace eo:=hid eo
 replace e0:=hid e0
 replace sx:=hid sx
 replace kx:=hid kx
 replace er:=hid er
 obtain ⟨C1,j1,C2,j2,rfl,-,-⟩:=id hx.opened
 replace hx:=hid hx
 obtain ⟨w1,hw1⟩:=eX (((w.alloc (.cells #[.bool (decide (x.num<0)),.slice C1 (Vx.len x.num.natAbs) j1,.slice C2 (Vx.len (below x.den)) j2] 35)).alloc (.cells #[.bool false,.slice none 0 0,.slice none 0 0] 35)))
 obtain ⟨b1,g1,g2⟩:=AL' hw1
 replace g1:=hid g1
 replace g2:=hid g2
 replace b1:=hid b1
 go_enter Tryz.func39,Tryz.ntmps39
 go_upto_region 1 with fail
 rw [←hw1]
 clear hw1
 have HX:=hid (AE' (w:=w1) eo.out (by omega) (by omega))
 go_wp2_with fail
 refine (HX.out).mono ?_
 rintro e w2 ⟨v2,rfl,hv2,b2⟩
 obtain ⟨C3,j3,C4,j4,rfl,-,-⟩:=id hv2.opened
 replace hv2:=hid hv2
 replace b2:=hid b2
 clear HX
 go_upto_region 2 with fail
 obtain ⟨w3,hw3⟩:=eX (w2.alloc (.cells #[.bool (decide (o.num<0)),.slice C3 (Vx.len o.num.natAbs) j3,.slice C4 (Vx.len (below o.den)) j4] 35))
 have b3:=hid (AO' hw3)
 have L3:=hid (AR' hw3)
 rw [←hw3]
 clear hw3
 have y1_3:=hid (bS b2.out b3.out)
 have y0_3:=hid (bS (bS b1.out b2.out) b3.out)
 obtain ⟨P,hP⟩:=eY w2.heap.size
 have hPl:w.heap.size+1<P:=by rw [←hP];exact Al' (Ab' g2.out b2.out)
 have LP:=L3.out
 rw [hP] at LP ⊢
 have HE:Hid (Gr' w (.cells #[.bool (decide (x.num<0)),.slice C1 (Vx.len x.num.natAbs) j1,.slice C2 (Vx.len (below x.den)) j2] 35 (0,0)) x P 0 w3):=hid ⟨Ab' g1.out y1_3.out,Ab' g2.out y1_3.out,⟨C3,j3,C4,j4,by rw [e0.out];exact LP,by rw [e0.out];exact (hv2.out.keep b3.out)⟩,y0_3.out⟩
 clear LP hP L3 hv2 g1 g2 b1 b2 b3 eo e0
 go_wp2_with fail
 go_loopw [8] (fun iv wr=>∃ k:Nat,k≤n∧iv=.int .i64 ((k:Nat):Int)∧Hid (Gr' w (.cells #[.bool (decide (x.num<0)),.slice C1 (Vx.len x.num.natAbs) j1,.slice C2 (Vx.len (below x.den)) j2] 35 (0,0)) x P k wr)) (fun iv _=>n - (intOf iv).toNat)
 case atStart=>exact ⟨0,Nat.zero_le _,rfl,HE⟩
 case round =>
   obtain ⟨k,hk,rfl,hrel⟩:=hrel
   clear HE
   obtain ⟨gx,gR,⟨A1,c1,B1,d1,gP,hP⟩,HB⟩:=hrel.out
   clear hrel
   rcases Nat.lt_or_ge k n with hkn | hkn
   · have hin:decide (k<n)=true:=dT_ hkn
     obtain ⟨q,eq⟩:=eY (x^k)
     obtain ⟨m,em⟩:=eY (q*x)
     have e2:Hid (x^(k+1)=m):=hid (by rw [Rat.pow_succ,eq];exact em)
     have sq:Aa' q≤536870912:=by
       rw [←eq]
       have h1:=DG' x k
       have h2:Aa' x*k≤Aa' x*200:=mL _ (by omega)
       have h3:=sx.out
       omega
     rw [eq] at gP hP
     obtain ⟨y0,y1,y2⟩:=Ad' gP
     obtain ⟨z0,z1,z2⟩:=Ad' gx
     have HX:=hid (CZ' em hP (hx.out.keep HB) sq kx.out)
     replace gx:=hid gx
     replace gR:=hid gR
     replace gP:=hid gP
     replace HB:=hid HB
     have hwk:IntKind.i64.wrap (((k:Nat):Int)+1)=((k:Nat):Int)+1:=by
       unfold IntKind.wrap
       simp [IntKind.bits,IntKind.signed]
       omega
     clear hP eq em
     go_wp2_with fail
     refine (HX.out).mono ?_
     rintro e w91 ⟨v91,rfl,hv91,b91⟩
     obtain ⟨A2,c2,B2,d2,rfl,-,-⟩:=id hv91.opened
     replace hv91:=hid hv91
     have DB:=Ab' gP.out b91
     obtain ⟨q0,q1,q2⟩:=Ad' DB
     have F0:=fR w91 P 0 _ _ DB
     have F1:=fR w91 P 1 _ _ DB
     have F2:=fR w91 P 2 _ _ DB
     obtain ⟨ue,hw⟩:=eX ((((w91.setCell ⟨P,0,none⟩ (.bool (decide (m.num<0)))).setCell ⟨P,1,none⟩ (.slice A2 (Vx.len m.num.natAbs) c2)).setCell ⟨P,2,none⟩ (.slice B2 (Vx.len (below m.den)) d2)))
     obtain ⟨E,OT,LV,BL⟩:=AE DB hw
     have FIN:Hid (Gr' w (.cells #[.bool (decide (x.num<0)),.slice C1 (Vx.len x.num.natAbs) j1,.slice C2 (Vx.len (below x.den)) j2] 35 (0,0)) x P (k+1) ue):=hid ⟨OT _ _ (by omega) (Ab' gx.out b91),OT _ _ (by omega) (Ab' gR.out b91),⟨A2,c2,B2,d2,by rw [e2.out];exact E,by rw [e2.out];exact LV.num hv91.out⟩,BL _ _ (by omega) (Ae' HB.out b91)⟩
     replace hw:=hid hw
     clear HX DB E OT LV BL b91 gx gR gP HB hv91 y0 y1 y2 z0 z1 z2
     go_wp2_with fail
     rw [←hw.out]
     go_roundw
     case rel=>exact ⟨k+1,hkn,by go_num,FIN⟩
     case measure=>simp [intOf];omega
   · obtain rfl:k=n:=Nat.le_antisymm hk hkn
     have hin:decide (k<k)=false:=dF_ (Nat.lt_irrefl _)
     rw [er.out] at gP hP
     obtain ⟨y0,y1,y2⟩:=Ad' gP
     obtain ⟨q0,q1,q2⟩:=Ad' gR
     have F0:=fR wr (w.heap.size+1) 0 _ _ gR
     have F1:=fR wr (w.heap.size+1) 1 _ _ gR
     have F2:=fR wr (w.heap.size+1) 2 _ _ gR
     obtain ⟨ue,hw⟩:=eX ((((wr.setCell ⟨(w.heap.size+1),0,none⟩ (.bool (decide (y.num<0)))).setCell ⟨(w.heap.size+1),1,none⟩ (.slice A1 (Vx.len y.num.natAbs) c1)).setCell ⟨(w.heap.size+1),2,none⟩ (.slice B1 (Vx.len (below y.den)) d1)))
     obtain ⟨E,-,LV,BL⟩:=AE gR hw
     have FE:=hid (LV.num hP)
     have FB:=hid (BL _ _ (by omega) HB)
     replace E:=hid E
     replace hw:=hid hw
     clear gx gR gP hP HB LV BL
     go_wp2_with fail
     rw [←hw.out]
     obtain ⟨r0,r1,r2⟩:=Ad' E.out
     refine bP (v:=.agg #[.bool (decide (y.num<0)),.slice A1 (Vx.len y.num.natAbs) c1,.slice B1 (Vx.len (below y.den)) d1]) ?_ rfl ⟨_,rfl,FE.out,FB.out⟩
     simp [results,Tryz.results39,go_sem,r0,r1,r2]
theorem CH' {w:World} {vx:Value} {a b r x m lo hi:Rat} {mp pp:Nat} {A7 B7 P1 P2 P3 Q1 Q2 Q3:Option Addr} {c7 d7 p1 p2 p3 q1 q2 q3:Nat} (hx:Ac' w vx x) (hm:w.heap[mp]?=some (.cells #[.bool (decide (m.num<0)),.slice A7 (Vx.len m.num.natAbs) c7,.slice B7 (Vx.len (below m.den)) d7] 35 (0,0))) (hmn:Ac' w (.agg #[.bool (decide (m.num<0)),.slice A7 (Vx.len m.num.natAbs) c7,.slice B7 (Vx.len (below m.den)) d7]) m) (hp:w.heap[pp]?=some (.cells #[.bool (decide (a.num<0)),.slice P1 (Vx.len a.num.natAbs) p1,.slice Q1 (Vx.len (below a.den)) q1,.bool (decide (b.num<0)),.slice P2 (Vx.len b.num.natAbs) p2,.slice Q2 (Vx.len (below b.den)) q2,.bool (decide (r.num<0)),.slice P3 (Vx.len r.num.natAbs) p3,.slice Q3 (Vx.len (below r.den)) q3] 39 (0,0))) (hpn:Ac' w (.agg #[.bool (decide (r.num<0)),.slice P3 (Vx.len r.num.natAbs) p3,.slice Q3 (Vx.len (below r.den)) q3]) r) (sx:Aa' x≤1000000) (sm:Aa' m≤1000000) (sr:Aa' r≤1000000) (h0:0≤r) (elo:x - m - r=lo) (ehi:x - m+r=hi) :
   Calls Tryz.prog 36 #[vx,.pointer (some ⟨mp,0,none⟩),.pointer (some ⟨pp,0,none⟩)] w (Bt' w lo hi):=by
 obtain ⟨s,es⟩:=eY (x - m:Rat)
 have ss:Aa' s≤4000000:=by rw [←es];have:=Vx.AC' x m;omega
 have kx:Aa' x≤536870912:=by omega
 have km:Aa' m≤536870912:=by omega
 have kr:Aa' r≤4000000:=by omega
 have hml:=Al' hm
 have hpl:=Al' hp
 have el:s - r=lo:=by rw [←elo,es]
 have eh:s+r=hi:=by rw [←ehi,es]
 clear elo ehi
 replace es:=hid es
 replace ss:=hid ss
 replace kx:=hid kx
 replace km:=hid km
 replace kr:=hid kr
 replace hm:=hid hm
 replace hp:=hid hp
 replace hmn:=hid hmn
 replace hpn:=hid hpn
 replace el:=hid el
 replace eh:=hid eh
 replace h0:=hid h0
 obtain ⟨C1,j1,C2,j2,rfl,-,-⟩:=id hx.opened
 replace hx:=hid hx
 obtain ⟨w1,hw1⟩:=eX (((w.alloc (.cells #[.bool (decide (x.num<0)),.slice C1 (Vx.len x.num.natAbs) j1,.slice C2 (Vx.len (below x.den)) j2] 35)).alloc (.cells #[.bool false,.slice none 0 0,.slice none 0 0,.bool false,.slice none 0 0,.slice none 0 0] 37)))
 obtain ⟨b1,g1,g2⟩:=AL' hw1
 replace g1:=hid g1
 replace g2:=hid g2
 replace b1:=hid b1
 go_enter Tryz.func36,Tryz.ntmps36
 go_upto_region 1 with fail
 rw [←hw1]
 clear hw1
 go_wp2_with fail
 have HSZa:Hid ((w.heap.size+1)≤w1.heap.size):=hid (by have:=Al' g2.out;omega)
 obtain ⟨z_x_0,z_x_1,z_x_2⟩:=Ad' g1.out
 have hlta_x:w.heap.size<(w.heap.size+1):=by omega
 obtain ⟨z_m_0,z_m_1,z_m_2⟩:=Ad' (Ab' hm.out b1.out)
 have hlta_m:mp<(w.heap.size+1):=by omega
 have hg:w1.heap[pp]?=some (.cells #[.bool (decide (a.num<0)),.slice P1 (Vx.len a.num.natAbs) p1,.slice Q1 (Vx.len (below a.den)) q1,.bool (decide (b.num<0)),.slice P2 (Vx.len b.num.natAbs) p2,.slice Q2 (Vx.len (below b.den)) q2,.bool (decide (r.num<0)),.slice P3 (Vx.len r.num.natAbs) p3,.slice Q3 (Vx.len (below r.den)) q3] 39 (0,0)):=(b1.out.block _ (gE.1 hp.out).1).trans hp.out
 have z_p_0:w1.cell? ⟨pp,0,none⟩=some (.bool (decide (a.num<0))):=cR _ _ _ _ _ _ hg
 have z_p_1:w1.cell? ⟨pp,1,none⟩=some (.slice P1 (Vx.len a.num.natAbs) p1):=cR _ _ _ _ _ _ hg
 have z_p_2:w1.cell? ⟨pp,2,none⟩=some (.slice Q1 (Vx.len (below a.den)) q1):=cR _ _ _ _ _ _ hg
 have z_p_3:w1.cell? ⟨pp,3,none⟩=some (.bool (decide (b.num<0))):=cR _ _ _ _ _ _ hg
 have z_p_4:w1.cell? ⟨pp,4,none⟩=some (.slice P2 (Vx.len b.num.natAbs) p2):=cR _ _ _ _ _ _ hg
 have z_p_5:w1.cell? ⟨pp,5,none⟩=some (.slice Q2 (Vx.len (below b.den)) q2):=cR _ _ _ _ _ _ hg
 have z_p_6:w1.cell? ⟨pp,6,none⟩=some (.bool (decide (r.num<0))):=cR _ _ _ _ _ _ hg
 have z_p_7:w1.cell? ⟨pp,7,none⟩=some (.slice P3 (Vx.len r.num.natAbs) p3):=cR _ _ _ _ _ _ hg
 have z_p_8:w1.cell? ⟨pp,8,none⟩=some (.slice Q3 (Vx.len (below r.den)) q3):=cR _ _ _ _ _ _ hg
 clear hg
 have hlta_p:pp<(w.heap.size+1):=by omega
 have H0:=Ah'.start w1 (w.heap.size+1)
 have H0':=H0
 unfold Ah' at H0'
 refine wp_region_held_drew (S:=(fun w'=>(∀ b o,b<(w.heap.size+1)→w'.cell? ⟨b,o,none⟩=w1.cell? ⟨b,o,none⟩)∧Below ((w.heap.size+1)) w1 w'∧An' w1 w')) (by kernel_rfl) ?_ (fun hHeld=>?_)
 · (try dsimp only)
   exact H0'
 obtain ⟨w2,hw2⟩:=eX w1.drew
 have b2:Hid (Below w1.heap.size w1 w2):=by rw [hw2];exact ⟨rfl,rfl,rfl,nL _,fun _ _=>rfl⟩
 rw [←hw2] at hHeld H0 ⊢
 clear hw2 H0'
 refine tk (i:=0) (h:=?_)
 try simp only [Act.put,lt,ly,lu]
 refine tk (i:=1) (h:=?_)
 try simp only [Act.put,lt,ly,lu]
 refine tk (i:=3) (h:=?_)
 try simp only [Act.put,lt,ly,lu]
 refine tk (i:=4) (h:=?_)
 try simp only [Act.put,lt,ly,lu]
 have y0_2:=hid (bS b1.out b2.out)
 refine rdz (i:=2) (h:=fun K hK=>?_);go_simp;go_at_call 21
 refine (Cw' es.out (hx.out.keep y0_2.out) (hmn.out.keep y0_2.out) kx.out km.out).mono ?_
 rintro e w3 ⟨v3,rfl,hv3,b3⟩
 obtain ⟨C3,j3,C4,j4,rfl,-,-⟩:=id hv3.opened
 replace hv3:=hid hv3
 replace b3:=hid b3
 have hk3:=Av' H0 HSZa b3.out;clear hHeld H0
 refine hK.out _ _ (by (try dsimp only);with_reducible exact hun hk3) (fun hHeld=>?_)
 clear hK K;try simp only [Act.put,lt,ly,lu]
 have y0_3:=hid (bS y0_2.out b3.out)
 refine rdz (i:=5) (h:=fun K hK=>?_);go_simp;go_at_call 37
 refine ((show Calls _ _ _ _ (Bt' _ lo hi) from el.out ▸ eh.out ▸ C2' hv3.out (hpn.out.keep y0_3.out) ss.out kr.out h0.out)).mono ?_
 rintro e w4 ⟨v4,rfl,hv4,b4⟩
 obtain ⟨C5,j5,C6,j6,C7,j7,C8,j8,rfl,-,-,-,-⟩:=id hv4.opened
 replace hv4:=hid hv4
 replace b4:=hid b4
 have hk4:=Av' hk3 HSZa b4.out;clear hHeld hk3
 refine hK.out _ _ (by (try dsimp only);with_reducible exact hun hk4) (fun hHeld=>?_)
 clear hK K;try simp only [Act.put,lt,ly,lu]
 have y1_4:=hid (bS (bS b2.out b3.out) b4.out)
 have Dq7:=(Ab' g2.out y1_4.out)
 refine rdz (i:=6) (h:=fun K hK=>?_)
 have q0:w4.cell? ⟨w.heap.size+1,0,none⟩=some (.bool false):=cR _ _ _ _ _ _ Dq7
 have F0:w4.frozen? ⟨w.heap.size+1,0,none⟩=false:=fR w4 (w.heap.size+1) 0 _ _ Dq7
 have q1:w4.cell? ⟨w.heap.size+1,1,none⟩=some (.slice none 0 0):=cR _ _ _ _ _ _ Dq7
 have F1:w4.frozen? ⟨w.heap.size+1,1,none⟩=false:=fR w4 (w.heap.size+1) 1 _ _ Dq7
 have q2:w4.cell? ⟨w.heap.size+1,2,none⟩=some (.slice none 0 0):=cR _ _ _ _ _ _ Dq7
 have F2:w4.frozen? ⟨w.heap.size+1,2,none⟩=false:=fR w4 (w.heap.size+1) 2 _ _ Dq7
 have q3:w4.cell? ⟨w.heap.size+1,3,none⟩=some (.bool false):=cR _ _ _ _ _ _ Dq7
 have F3:w4.frozen? ⟨w.heap.size+1,3,none⟩=false:=fR w4 (w.heap.size+1) 3 _ _ Dq7
 have q4:w4.cell? ⟨w.heap.size+1,4,none⟩=some (.slice none 0 0):=cR _ _ _ _ _ _ Dq7
 have F4:w4.frozen? ⟨w.heap.size+1,4,none⟩=false:=fR w4 (w.heap.size+1) 4 _ _ Dq7
 have q5:w4.cell? ⟨w.heap.size+1,5,none⟩=some (.slice none 0 0):=cR _ _ _ _ _ _ Dq7
 have F5:w4.frozen? ⟨w.heap.size+1,5,none⟩=false:=fR w4 (w.heap.size+1) 5 _ _ Dq7
 replace Dq7:=hid Dq7
 go_simp
 clear q0 F0 q1 F1 q2 F2 q3 F3 q4 F4 q5 F5
 have y0_4:=hid (bS y0_3.out b4.out)
 have FB:=hid y0_4.out
 have FV:=hid hv4.out
 obtain ⟨ue,hw⟩:=eX (((((((w4.setCell ⟨w.heap.size+1,0,none⟩ (.bool (decide (lo.num<0)))).setCell ⟨w.heap.size+1,1,none⟩ (.slice C5 (Vx.len lo.num.natAbs) j5)).setCell ⟨w.heap.size+1,2,none⟩ (.slice C6 (Vx.len (below lo.den)) j6)).setCell ⟨w.heap.size+1,3,none⟩ (.bool (decide (hi.num<0)))).setCell ⟨w.heap.size+1,4,none⟩ (.slice C7 (Vx.len hi.num.natAbs) j7)).setCell ⟨w.heap.size+1,5,none⟩ (.slice C8 (Vx.len (below hi.den)) j8)))
 obtain ⟨E_ue,OT,LV,BL⟩:=AF Dq7.out hw
 rw [←hw]
 clear hw
 replace E_ue:=hid E_ue
 have FE:=hid (LV.box FV.out)
 replace FB:=hid (BL _ _ (by omega) FB.out)
 have HKE:=hk4
 refine hK.out _ _ ?_ (fun hHeld2=>?_)
 · (try dsimp only)
   exact ⟨fun b o hb=>(Au (BL (w.heap.size+1) _ (by omega) hk4.2.1)) b o hb,BL (w.heap.size+1) _ (by omega) hk4.2.1,A7' hk4.2.2 LV⟩
 clear hK K hHeld OT LV BL HKE
 try simp only [Act.put,lt,ly,lu]
 have hHeld:=hHeld2
 clear hHeld2
 refine wpAnyH_done (by kernel_rfl) ?_ _
 clear hHeld
 obtain ⟨r0,r1,r2,r3,r4,r5⟩:=Aj E_ue.out
 go_wp2_with fail
 refine bP (v:=.agg #[.bool (decide (lo.num<0)),.slice C5 (Vx.len lo.num.natAbs) j5,.slice C6 (Vx.len (below lo.den)) j6,.bool (decide (hi.num<0)),.slice C7 (Vx.len hi.num.natAbs) j7,.slice C8 (Vx.len (below hi.den)) j8]) ?_ rfl ⟨_,rfl,FE.out,FB.out⟩
 simp [results,Tryz.results36,go_sem,r0,r1,r2,r3,r4,r5]
theorem Ha' {P:Program} {md:Region.Mode} {ops:Array Oper} {Q:Exit→Act→World→Prop} {S:World→Prop} {INV:Act→Nat→Array Bool→Act→World→Prop} {base n:Nat} {l:Array Bool} {a:Act} {w:World} (hi:INV a n l a w) (h0:∀ l' a' w',INV a 0 l' a' w'→wpAnyH P md ops Q S base l' a' w')
   (hs:∀ n l' a' w',INV a (n+1) l' a' w'→(∀ m,m≤n→∀ l'' a'' w'',INV a m l'' a'' w''→wpAnyH P md ops Q S (m+base) l'' a'' w'')→wpAnyH P md ops Q S (n+1+base) l' a' w'):wpAnyH P md ops Q S (n+base) l a w:=by
 have h:∀ k n,n≤k→∀ l' a' w',INV a n l' a' w'→wpAnyH P md ops Q S (n+base) l' a' w':=by
   intro k
   induction k with
   | zero =>
     intro n hn l' a' w' h
     obtain rfl:n=0:=by omega
     rw [Nat.zero_add]
     exact h0 l' a' w' h
   | succ k ih =>
     intro n hn l' a' w' h
     cases n with
     | zero=>rw [Nat.zero_add];exact h0 l' a' w' h
     | succ n=>exact hs n l' a' w' h (fun m hm=>ih m (by omega))
 exact h n n (nL _) l a w hi
theorem BA' {P:Program} {md:Region.Mode} {ops:Array Oper} {Q:Exit→Act→World→Prop} {S:World→Prop} {f:Nat} {l:Array Bool} {a:Act} {w:World} (p:Nat→Bool) (hr:(!(Region.ready md ops l).isEmpty && (Region.ready md ops l).all p)=true) (h:∀ i,p i=true→AllReadyH P md ops Q S f l a w [i]):wpAnyH P md ops Q S (f+1) l a w:=by
 rw [Bool.and_eq_true] at hr
 refine wpAnyH_all rfl ?_ (fun i hi=>h i (List.all_eq_true.1 hr.2 i hi) i (List.mem_singleton.2 rfl))
 intro e
 have h1:=hr.1
 rw [e] at h1
 cases h1
def BN (N:Nat) (w:World) (o:Obj) (b:Nat):Prop:=N≤b∧w.heap[b]?=some o
theorem BN.keep {N:Nat} {w w':World} {o:Obj} {b:Nat} (h:BN N w o b) (hb:Below w.heap.size w w'):BN N w' o b:=⟨h.1,Ab' h.2 hb⟩
theorem BN.ne {N:Nat} {w:World} {o:Obj} {b:Nat} (h:BN N w o b):w.heap.size≠b:=Ne.symm (Nat.ne_of_lt (Al' h.2))
theorem BN.new {N:Nat} {w:World} (o:Obj) (h:N≤w.heap.size):BN N (w.alloc o) o w.heap.size:=⟨h,hA_ w o⟩
def BP (d:Bool) (N:Nat) (w:World) (o:Obj) (p:Value) (b:Nat):Prop:=d=true→p=.pointer (some ⟨b,0,none⟩)∧BN N w o b
theorem BP.keep {d:Bool} {N:Nat} {w w':World} {o:Obj} {p:Value} {b:Nat} (h:BP d N w o p b) (hb:Below w.heap.size w w'):BP d N w' o p b:=fun hd=>⟨(h hd).1,(h hd).2.keep hb⟩
theorem BP.ne {d:Bool} {N:Nat} {w:World} {o:Obj} {p:Value} {b:Nat} (h:BP d N w o p b):d=true→w.heap.size≠b:=fun hd=>(h hd).2.ne
theorem BP.new {d:Bool} {N:Nat} {w:World} (o:Obj) (h:N≤w.heap.size):BP d N (w.alloc o) o (.pointer (some ⟨w.heap.size,0,none⟩)) w.heap.size:=fun _=>⟨rfl,.new o h⟩
def Ek' (P:Program) (ops:Array Oper) (Q:Exit→Act→World→Prop) (s:Nat) (e:Exit) (a:Act) (w:World):Prop :=
  match e with
  | .normal=>wpOp P ops Q s (Q .normal) a w
  | e=>Q e a w
theorem IG' {P:Program} {ops:Array Oper} {Q:Exit→Act→World→Prop} {s:Nat} {o:Oper} {a:Act} {w:World} {K:Act→World→Prop}:o.wp P a w K (Ek' P ops Q s)=o.wp P a w K Q:=by
 unfold Oper.wp Oper.upon
 split <;> rfl
theorem IH {P:Program} {ops:Array Oper} {Q:Exit→Act→World→Prop} {s i:Nat} {o d:Oper} (ho:ops[s]?=some o) (hds:d.dst=o.dst) (hne:i≠s) {a:Act} {w:World} {K:Act→World→Prop} :
   wpOp P (ops.setIfInBounds s d) (Ek' P ops Q s) i K a w=wpOp P ops Q i K a w:=by
 have hg:(ops.setIfInBounds s d)[i]?=ops[i]?:=Array.getElem?_setIfInBounds_ne (Ne.symm hne)
 have hy:yielded (ops.setIfInBounds s d) a.tmps=yielded ops a.tmps:=by
   funext j
   unfold yielded
   rcases Nat.decEq s j with h | h
   · rw [Array.getElem?_setIfInBounds_ne h]
   · subst h
     have hlt:s<ops.size:=(gE.1 ho).1
     rw [Array.getElem?_setIfInBounds_self_of_lt hlt,ho]
     simp only [Option.bind_some,hds]
 unfold wpOp
 rw [hg,hy]
 cases ops[i]? with
 | none=>rfl
 | some x=>dsimp only;rw [IG'];rfl
theorem C3' {ops:Array Oper} {md:Region.Mode} {s:Nat} {o d:Oper} (ho:ops[s]?=some o) (hda:d.after=o.after) (listed:Array Bool):Region.ready md (ops.setIfInBounds s d) listed=Region.ready md ops listed:=by
 have hlt:s<ops.size:=(gE.1 ho).1
 unfold Region.ready
 rw [Array.size_setIfInBounds]
 congr 1
 funext i
 rcases Nat.decEq s i with h | h
 · rw [Array.getElem?_setIfInBounds_ne h]
 · subst h
   rw [Array.getElem?_setIfInBounds_self_of_lt hlt,ho]
   simp only [Option.map_some,hda]
def lastB (md:Region.Mode) (ops:Array Oper) (s:Nat):Bool :=
  (List.range ops.size).all fun i=>match ops[i]? with
    | some x=>x.after.all (fun e => !Region.binds md e || decide (e.on<i)) && (decide (i=s) || (match ops[s]? with | some y=>y.after.any fun e=>Region.binds md e && decide (e.on=i) | none=>false))
    | none=>true
theorem DY' {ops:Array Oper} {md:Region.Mode} {listed:Array Bool} (hl:listed.size=ops.size) (h:∀ i x,ops[i]?=some x→∀ e∈x.after,Region.binds md e=true→e.on<i) :
   ∀ n s,s≤n→s<ops.size→listed.getD s true=false→Region.ready md ops listed≠[]:=by
 intro n
 induction n with
 | zero =>
   intro s hs hlt hu
   obtain rfl:s=0:=by omega
   intro h0
   have:0∈Region.ready md ops listed:=mem_ready.2 ⟨hu,ops[0],by simp [hlt],fun e he hb=>absurd (h 0 _ (by simp [hlt]) e he hb) (by omega)⟩
   rw [h0] at this
   cases this
 | succ n ih =>
   intro s hs hlt hu
   rcases Decidable.em (∃ j,j<s∧listed.getD j true=false) with ⟨j,hj,hju⟩ | hall
   · exact ih j (by omega) (by omega) hju
   · intro h0
     have:s∈Region.ready md ops listed:=mem_ready.2 ⟨hu,ops[s],by simp [hlt],fun e he hb=>by
       have h1:=h s _ (by simp [hlt]) e he hb
       have h2:¬ listed.getD e.on true=false:=fun k=>hall ⟨_,h1,k⟩
       have h3:e.on<listed.size:=by omega
       simp only [Array.getD,h3,dif_pos] at h2 ⊢
       simpa using h2⟩
     rw [h0] at this
     cases this
theorem H6' {P:Program} {ops:Array Oper} {Q:Exit→Act→World→Prop} {md:Region.Mode} {s:Nat} {o d:Oper} {v:Value} (ho:ops[s]?=some o) (hds:d.dst=o.dst) (hd0:d.dst=none) (hda:d.after=o.after) (hdg:d.guard=none)
   (hrun:∀ (a:Act) (w:World),(execOp a.eval d).run P w=.ok (.value v) w) (hask:∀ a w,¬ d.asks P a w)
   (hlow:∀ i x,ops[i]?=some x→∀ e∈x.after,Region.binds md e=true→e.on<i) (hall:∀ j,j≠s→j<ops.size→∃ e∈o.after,Region.binds md e=true∧e.on=j) :
   ∀ (fuel:Nat) (listed:Array Bool) (a:Act) (w:World),listed.size=ops.size→listed.getD s true=false →
     wpAny P md (ops.setIfInBounds s d) (Ek' P ops Q s) fuel listed a w→wpAny P md ops Q fuel listed a w:=by
 have hlt:s<ops.size:=(gE.1 ho).1
 intro fuel
 induction fuel with
 | zero =>
   intro listed a w hsz hu h
   have:=h.1
   rw [C3' ho hda] at this
   exact absurd this (DY' hsz hlow s s (nL _) hlt hu)
 | succ fuel ih =>
   intro listed a w hsz hu h
   refine ⟨fun h0=>absurd h0 (DY' hsz hlow s s (nL _) hlt hu),fun i hi=>?_⟩
   have h1:=h.2 i (by rw [C3' ho hda];exact hi)
   rcases Nat.decEq i s with hne | rfl
   · rw [IH ho hds hne] at h1
     refine wpOp_mono (fun a' w' k=>ih _ a' w' (by rw [Array.size_setIfInBounds];exact hsz) (by rw [getD_set_ne true hne];exact hu) k) h1
   · -- the last one: all others are listed
     obtain ⟨hun,o',ho',hw⟩:=mem_ready.1 hi
     obtain rfl:o'=o:=Option.some.inj (ho'.symm.trans ho)
     have hdone:Region.ready md ops (listed.setIfInBounds i true)=[]:=by
       rw [List.eq_nil_iff_forall_not_mem]
       intro j hj
       obtain ⟨hj0,x,hx,-⟩:=mem_ready.1 hj
       rcases Nat.decEq j i with hji | rfl
       · have hjlt:j<ops.size:=(gE.1 hx).1
         obtain ⟨e,he,hb,rfl⟩:=hall j hji hjlt
         have h2:=hw e he hb
         rw [getD_set_ne true (Ne.symm hji)] at hj0
         have h3:e.on<listed.size:=by omega
         simp only [Array.getD,h3,dif_pos] at h2 hj0
         rw [h2] at hj0
         cases hj0
       · have h3:j<listed.size:=by omega
         simp [h3] at hj0
     -- what the dummy leaves
     have hK:wpOp P ops Q i (Q .normal) a w:=by
       unfold wpOp at h1
       rw [Array.getElem?_setIfInBounds_self_of_lt hlt] at h1
       dsimp only at h1
       rw [if_pos (by simp [Region.wanted,hdg])] at h1
       rcases h1 with h1 | ⟨h1,-⟩
       · unfold Oper.wp at h1
         rw [hrun,Oper.upon_value,hd0] at h1
         have h1':wpAny P md (ops.setIfInBounds i d) (Ek' P ops Q i) fuel (listed.setIfInBounds i true) a w:=h1
         have hr:Region.ready md (ops.setIfInBounds i d) (listed.setIfInBounds i true)=[]:=by rw [C3' ho hda];exact hdone
         cases fuel with
         | zero=>exact h1'.2
         | succ f=>exact h1'.1 hr
       · exact absurd h1 (hask a w)
     exact wpOp_mono (fun a' w' k=>wpAny_done hdone k fuel) hK
def Dj (o:Oper):Oper:={ o with op:=.move (.const (.bool false)),dst:=none,guard:=none }
theorem H7 {P:Program} (o:Oper) (a:Act) (w:World):(execOp a.eval (Dj o)).run P w=.ok (.value (.bool false)) w:=by
 simp [Dj,execOp,go_sem]
theorem H7' {P:Program} (o:Oper) (a:Act) (w:World):¬ (Dj o).asks P a w:=by
 intro h
 have h1:=h.1
 simp [Dj,execOp,go_sem] at h1
 have h2:noRoomEvent∈(#[]:Array Event):=h1
 simp at h2
theorem Dx {P:Program} {id s:Nat} {ops:Array Oper} {Q:Exit→Act→World→Prop} {o:Oper} {S:World→Prop} {a:Act} {w:World} (hm:P.follows .mixedOrders=true) (ho:ops[s]?=some o) (hd0:o.dst=none)
   (hl:lastB .any ops s=true)
   (h:wpAnyH P .any (ops.setIfInBounds s (Dj o)) (Ek' P ops Q s) S ops.size (Array.replicate ops.size false) a w.drew):(Code.region id ops true).wp P Q a w:=by
 have hlt:s<ops.size:=(gE.1 ho).1
 have hl':=fun i (hi:i<ops.size)=>List.all_eq_true.1 hl i (List.mem_range.2 hi)
 refine wp_region_any hm (H6' (d:=Dj o) ho hd0.symm rfl rfl rfl (fun a w=>H7 o a w) (fun a w=>H7' o a w) ?_ ?_ _ _ _ _ (by simp) (by simp [hlt]) (wpAny_of_held _ _ _ _ h))
 · intro i x hx e he hb
   have h1:=hl' i (gE.1 hx).1
   rw [hx] at h1
   simp only [Bool.and_eq_true] at h1
   have h2:=Array.all_eq_true_iff_forall_mem.1 h1.1 e he
   simpa [hb] using h2
 · intro j hj hjl
   have h1:=hl' j hjl
   rw [show ops[j]?=some ops[j] by simp [hjl],ho] at h1
   simp only [Bool.and_eq_true,Bool.or_eq_true,decide_eq_true_eq,hj,false_or] at h1
   obtain ⟨q,hq,h2⟩:=Array.any_eq_true.1 h1.2
   simp only [Bool.and_eq_true,decide_eq_true_eq] at h2
   exact ⟨_,Array.getElem_mem hq,h2.1,h2.2⟩
theorem FS' {P:Program} {ops:Array Oper} {Q:Exit→Act→World→Prop} {s:Nat} {o:Oper} {a:Act} {w:World} (ho:ops[s]?=some o) (hg:o.guard=none) (h:o.wp P a w (Q .normal) Q):Ek' P ops Q s .normal a w:=by
 show wpOp P ops Q s (Q .normal) a w
 unfold wpOp
 rw [ho]
 dsimp only
 rw [if_pos (by simp [Region.wanted,hg])]
 exact .inl h
end Go.Proofs.YtflopjfnppolgaaGreatDoor.Rf
