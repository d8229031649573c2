/-
  Contracts of the functions that the law calls, for every input (BoxI Tg Ts Vd Late Ea).
-/
import Derived.Test.YtlcimajjnfbidaaGreatDoorZ00
import Derived.Test.YtlcimajjnfbidaaGreatDoorZ23
import Derived.Test.YtlcimajjnfbidaaGreatDoorZ20
import Derived.Test.YtlcimajjnfbidaaGreatDoorZ39
import Derived.Test.YtlcimajjnfbidaaGreatDoorZ10
import Derived.Test.YtlcimajjnfbidaaGreatDoorZ38
import Derived.Deep.LoopGhost
import Derived.Deep.RegionHeld3
set_option linter.all false
set_option maxRecDepth 100000
set_option maxHeartbeats 40000000
namespace Go.Proofs.YtlcimajjnfbidaaGreatDoor
open Lib (hid)
open Go.RowKit
open Vx
theorem Gj' {w:World} {v0:Value} {v1:Value} {a b:Rat} {c d:Rat} (hv:Am' w v0 a b) (hu:Am' w v1 c d) (sa:Aa' a≤34359738368) (sb:Aa' b≤34359738368) (sc:Aa' c≤34359738368) (sd:Aa' d≤34359738368) :
   Calls Tryz.prog 17 #[v0,v1] w (AJ' w (a+c) (b+d)):=by
 obtain ⟨A1,c1,A2,c2,A3,c3,A4,c4,rfl,ha,hb⟩:=hv.opened
 obtain ⟨A5,c5,A6,c6,A7,c7,A8,c8,rfl,hc,hd⟩:=hu.opened
 obtain ⟨wB,hwB⟩:=eX (((w.alloc (.cells #[.bool (decide (a.num<0)),.slice A1 (len a.num.natAbs) c1,.slice A2 (len (below a.den)) c2,.bool (decide (b.num<0)),.slice A3 (len b.num.natAbs) c3,.slice A4 (len (below b.den)) c4] 48)).alloc (.cells #[.bool (decide (c.num<0)),.slice A5 (len c.num.natAbs) c5,.slice A6 (len (below c.den)) c6,.bool (decide (d.num<0)),.slice A7 (len d.num.natAbs) c7,.slice A8 (len (below d.den)) c8] 48)).alloc (.cells #[.bool false,.slice none 0 0,.slice none 0 0,.bool false,.slice none 0 0,.slice none 0 0] 48))
 obtain ⟨b0,g0,g1,g2⟩:=Au' hwB
 obtain ⟨k0,k1,k2,k3,k4,k5⟩:=Ad' g0
 obtain ⟨k6,k7,k8,k9,k10,k11⟩:=Ad' g1
 have HK0:=hid (Ah.start (T:=48) rfl AP' g2)
 have HB0:=hid b0
 have hlt1:w.heap.size<w.heap.size+2:=by omega
 have hlt2:w.heap.size+1<w.heap.size+2:=by omega
 clear g0 g1 g2 b0
 obtain ⟨qq,eq⟩:=eX (a+c:Rat)
 obtain ⟨rr,er⟩:=eX (b+d:Rat)
 have HX:=fun (w':World) (hk:Af' wB (w.heap.size+2) wB w')=>hid (DP' (hk.stay.num (ha.keep HB0.out)) (hk.stay.num (hc.keep HB0.out)) sa sc)
 have HY:=fun (w':World) (hk:Af' wB (w.heap.size+2) wB w')=>hid (DP' (hk.stay.num (hb.keep HB0.out)) (hk.stay.num (hd.keep HB0.out)) sb sd)
 rw [←eq] at HX ⊢
 rw [←er] at HY ⊢
 have H0:=HK0.out.begin6
 have H0':=H0
 unfold Af' at H0'
 clear eq er hv ha hb hu hc hd sa sb sc sd
 go_enter Tryz.func17,Tryz.ntmps17
 go_upto_region 1 with fail
 rw [←hwB]
 clear hwB
 go_wp2_with fail
 go_region_held3 (fun w'=>(∀ b o,b<w.heap.size+2→w'.cell? ⟨b,o,none⟩=wB.cell? ⟨b,o,none⟩)∧w'.cell? ⟨w.heap.size+2,0,none⟩=some (cur w' ⟨w.heap.size+2,0,none⟩)∧w'.cell? ⟨w.heap.size+2,1,none⟩=some (cur w' ⟨w.heap.size+2,1,none⟩)∧w'.cell? ⟨w.heap.size+2,2,none⟩=some (cur w' ⟨w.heap.size+2,2,none⟩)∧w'.cell? ⟨w.heap.size+2,3,none⟩=some (cur w' ⟨w.heap.size+2,3,none⟩)∧w'.cell? ⟨w.heap.size+2,4,none⟩=some (cur w' ⟨w.heap.size+2,4,none⟩)∧w'.cell? ⟨w.heap.size+2,5,none⟩=some (cur w' ⟨w.heap.size+2,5,none⟩)∧w'.frozen? ⟨w.heap.size+2,0,none⟩=false∧w'.frozen? ⟨w.heap.size+2,1,none⟩=false∧w'.frozen? ⟨w.heap.size+2,2,none⟩=false∧w'.frozen? ⟨w.heap.size+2,3,none⟩=false∧w'.frozen? ⟨w.heap.size+2,4,none⟩=false∧w'.frozen? ⟨w.heap.size+2,5,none⟩=false∧Ah 6 48 wB (w.heap.size+2) w'∧Ag' wB w')
   (first | with_reducible exact H0' | with_reducible exact hk1' | with_reducible exact hk2' | exact hk2.store)
   (first | (go_at_call 45;refine ((HY _ hk1).out).mono ?_;rintro e w2 ⟨v2,rfl,hv2,hbl2⟩;obtain ⟨C3,j3,C4,j4,rfl,-,-⟩:=id hv2.opened;have hk2:=hk1.call hbl2;have hk2':=hk2;unfold Af' at hk2') | (go_at_call 45;refine ((HX _ H0).out).mono ?_;rintro e w1 ⟨v1,rfl,hv1,hbl1⟩;obtain ⟨C1,j1,C2,j2,rfl,-,-⟩:=id hv1.opened;have hk1:=H0.call hbl1;have hk1':=hk1;unfold Af' at hk1'))
 rename_i hHl
 clear hHl
 have hv1':=hv1.keep hbl2
 have HD:=hk2.done (p:=qq) (q:=rr) (s1:=decide (qq.num<0)) (A1:=C1) (n1:=len qq.num.natAbs) (c1:=j1) (A2:=C2) (n2:=len (below qq.den)) (c2:=j2) (s2:=decide (rr.num<0)) (A3:=C3) (n3:=len rr.num.natAbs) (c3:=j3) (A4:=C4) (n4:=len (below rr.den)) (c4:=j4) (hv1') (hv2)
 obtain ⟨d1,d2,d3⟩:=HD
 obtain ⟨r0,r1,r2,r3,r4,r5⟩:=Ad' d3
 have HD:=hid (And.intro d1 d2)
 clear d1 d2 d3
 go_wp2_with fail
 refine bP (v:=.agg #[.bool (decide (qq.num<0)),.slice (C1) (len qq.num.natAbs) (j1),.slice (C2) (len (below qq.den)) (j2),.bool (decide (rr.num<0)),.slice (C3) (len rr.num.natAbs) (j3),.slice (C4) (len (below rr.den)) (j4)]) ?_ rfl ⟨_,rfl,HD.out.1,Ae HB0.out (by omega) HD.out.2⟩
 simp [results,Tryz.results17,go_sem,r0,r1,r2,r3,r4,r5]
theorem Gk {w:World} {v0:Value} {v1:Value} {a b:Rat} {c d:Rat} (hv:Am' w v0 a b) (hu:Am' w v1 c d) (sa:Aa' a≤34359738368) (sb:Aa' b≤34359738368) (sc:Aa' c≤34359738368) (sd:Aa' d≤34359738368) :
   Calls Tryz.prog 19 #[v0,v1] w (AJ' w (a - d) (b - c)):=by
 obtain ⟨A1,c1,A2,c2,A3,c3,A4,c4,rfl,ha,hb⟩:=hv.opened
 obtain ⟨A5,c5,A6,c6,A7,c7,A8,c8,rfl,hc,hd⟩:=hu.opened
 obtain ⟨wB,hwB⟩:=eX (((w.alloc (.cells #[.bool (decide (a.num<0)),.slice A1 (len a.num.natAbs) c1,.slice A2 (len (below a.den)) c2,.bool (decide (b.num<0)),.slice A3 (len b.num.natAbs) c3,.slice A4 (len (below b.den)) c4] 48)).alloc (.cells #[.bool (decide (c.num<0)),.slice A5 (len c.num.natAbs) c5,.slice A6 (len (below c.den)) c6,.bool (decide (d.num<0)),.slice A7 (len d.num.natAbs) c7,.slice A8 (len (below d.den)) c8] 48)).alloc (.cells #[.bool false,.slice none 0 0,.slice none 0 0,.bool false,.slice none 0 0,.slice none 0 0] 48))
 obtain ⟨b0,g0,g1,g2⟩:=Au' hwB
 obtain ⟨k0,k1,k2,k3,k4,k5⟩:=Ad' g0
 obtain ⟨k6,k7,k8,k9,k10,k11⟩:=Ad' g1
 have HK0:=hid (Ah.start (T:=48) rfl AP' g2)
 have HB0:=hid b0
 have hlt1:w.heap.size<w.heap.size+2:=by omega
 have hlt2:w.heap.size+1<w.heap.size+2:=by omega
 clear g0 g1 g2 b0
 obtain ⟨qq,eq⟩:=eX (a - d:Rat)
 obtain ⟨rr,er⟩:=eX (b - c:Rat)
 have HX:=fun (w':World) (hk:Af' wB (w.heap.size+2) wB w')=>hid (DQ (hk.stay.num (ha.keep HB0.out)) (hk.stay.num (hd.keep HB0.out)) sa sd)
 have HY:=fun (w':World) (hk:Af' wB (w.heap.size+2) wB w')=>hid (DQ (hk.stay.num (hb.keep HB0.out)) (hk.stay.num (hc.keep HB0.out)) sb sc)
 rw [←eq] at HX ⊢
 rw [←er] at HY ⊢
 have H0:=HK0.out.begin6
 have H0':=H0
 unfold Af' at H0'
 clear eq er hv ha hb hu hc hd sa sb sc sd
 go_enter Tryz.func19,Tryz.ntmps19
 go_upto_region 1 with fail
 rw [←hwB]
 clear hwB
 go_wp2_with fail
 go_region_held3 (fun w'=>(∀ b o,b<w.heap.size+2→w'.cell? ⟨b,o,none⟩=wB.cell? ⟨b,o,none⟩)∧w'.cell? ⟨w.heap.size+2,0,none⟩=some (cur w' ⟨w.heap.size+2,0,none⟩)∧w'.cell? ⟨w.heap.size+2,1,none⟩=some (cur w' ⟨w.heap.size+2,1,none⟩)∧w'.cell? ⟨w.heap.size+2,2,none⟩=some (cur w' ⟨w.heap.size+2,2,none⟩)∧w'.cell? ⟨w.heap.size+2,3,none⟩=some (cur w' ⟨w.heap.size+2,3,none⟩)∧w'.cell? ⟨w.heap.size+2,4,none⟩=some (cur w' ⟨w.heap.size+2,4,none⟩)∧w'.cell? ⟨w.heap.size+2,5,none⟩=some (cur w' ⟨w.heap.size+2,5,none⟩)∧w'.frozen? ⟨w.heap.size+2,0,none⟩=false∧w'.frozen? ⟨w.heap.size+2,1,none⟩=false∧w'.frozen? ⟨w.heap.size+2,2,none⟩=false∧w'.frozen? ⟨w.heap.size+2,3,none⟩=false∧w'.frozen? ⟨w.heap.size+2,4,none⟩=false∧w'.frozen? ⟨w.heap.size+2,5,none⟩=false∧Ah 6 48 wB (w.heap.size+2) w'∧Ag' wB w')
   (first | with_reducible exact H0' | with_reducible exact hk1' | with_reducible exact hk2' | exact hk2.store)
   (first | (go_at_call 64;refine ((HY _ hk1).out).mono ?_;rintro e w2 ⟨v2,rfl,hv2,hbl2⟩;obtain ⟨C3,j3,C4,j4,rfl,-,-⟩:=id hv2.opened;have hk2:=hk1.call hbl2;have hk2':=hk2;unfold Af' at hk2') | (go_at_call 64;refine ((HX _ H0).out).mono ?_;rintro e w1 ⟨v1,rfl,hv1,hbl1⟩;obtain ⟨C1,j1,C2,j2,rfl,-,-⟩:=id hv1.opened;have hk1:=H0.call hbl1;have hk1':=hk1;unfold Af' at hk1'))
 rename_i hHl
 clear hHl
 have hv1':=hv1.keep hbl2
 have HD:=hk2.done (p:=qq) (q:=rr) (s1:=decide (qq.num<0)) (A1:=C1) (n1:=len qq.num.natAbs) (c1:=j1) (A2:=C2) (n2:=len (below qq.den)) (c2:=j2) (s2:=decide (rr.num<0)) (A3:=C3) (n3:=len rr.num.natAbs) (c3:=j3) (A4:=C4) (n4:=len (below rr.den)) (c4:=j4) (hv1') (hv2)
 obtain ⟨d1,d2,d3⟩:=HD
 obtain ⟨r0,r1,r2,r3,r4,r5⟩:=Ad' d3
 have HD:=hid (And.intro d1 d2)
 clear d1 d2 d3
 go_wp2_with fail
 refine bP (v:=.agg #[.bool (decide (qq.num<0)),.slice (C1) (len qq.num.natAbs) (j1),.slice (C2) (len (below qq.den)) (j2),.bool (decide (rr.num<0)),.slice (C3) (len rr.num.natAbs) (j3),.slice (C4) (len (below rr.den)) (j4)]) ?_ rfl ⟨_,rfl,HD.out.1,Ae HB0.out (by omega) HD.out.2⟩
 simp [results,Tryz.results19,go_sem,r0,r1,r2,r3,r4,r5]
theorem Gk' {w:World} {v0:Value} {a b:Rat} (hv:Am' w v0 a b) (sa:Aa' a≤34359738368) (sb:Aa' b≤34359738368) :
   Calls Tryz.prog 23 #[v0] w (AJ' w (-b) (-a)):=by
 obtain ⟨A1,c1,A2,c2,A3,c3,A4,c4,rfl,ha,hb⟩:=hv.opened
 obtain ⟨wB,hwB⟩:=eX ((w.alloc (.cells #[.bool (decide (a.num<0)),.slice A1 (len a.num.natAbs) c1,.slice A2 (len (below a.den)) c2,.bool (decide (b.num<0)),.slice A3 (len b.num.natAbs) c3,.slice A4 (len (below b.den)) c4] 48)).alloc (.cells #[.bool false,.slice none 0 0,.slice none 0 0,.bool false,.slice none 0 0,.slice none 0 0] 48))
 obtain ⟨b0,g0,g1⟩:=Aq' hwB
 obtain ⟨k0,k1,k2,k3,k4,k5⟩:=Ad' g0
 have HK0:=hid (Ah.start (T:=48) rfl AP' g1)
 have HB0:=hid b0
 have hlt1:w.heap.size<w.heap.size+1:=by omega
 clear g0 g1 b0
 obtain ⟨qq,eq⟩:=eX (-b:Rat)
 obtain ⟨rr,er⟩:=eX (-a:Rat)
 have HX:=fun (w':World) (hk:Af' wB (w.heap.size+1) wB w')=>hid (Cl (hk.stay.num (hb.keep HB0.out)) (nT sb (by omega)))
 have HY:=fun (w':World) (hk:Af' wB (w.heap.size+1) wB w')=>hid (Cl (hk.stay.num (ha.keep HB0.out)) (nT sa (by omega)))
 rw [←eq] at HX ⊢
 rw [←er] at HY ⊢
 have H0:=HK0.out.begin6
 have H0':=H0
 unfold Af' at H0'
 clear eq er hv ha hb sa sb
 go_enter Tryz.func23,Tryz.ntmps23
 go_upto_region 1 with fail
 rw [←hwB]
 clear hwB
 go_wp2_with fail
 go_region_held3 (fun w'=>(∀ b o,b<w.heap.size+1→w'.cell? ⟨b,o,none⟩=wB.cell? ⟨b,o,none⟩)∧w'.cell? ⟨w.heap.size+1,0,none⟩=some (cur w' ⟨w.heap.size+1,0,none⟩)∧w'.cell? ⟨w.heap.size+1,1,none⟩=some (cur w' ⟨w.heap.size+1,1,none⟩)∧w'.cell? ⟨w.heap.size+1,2,none⟩=some (cur w' ⟨w.heap.size+1,2,none⟩)∧w'.cell? ⟨w.heap.size+1,3,none⟩=some (cur w' ⟨w.heap.size+1,3,none⟩)∧w'.cell? ⟨w.heap.size+1,4,none⟩=some (cur w' ⟨w.heap.size+1,4,none⟩)∧w'.cell? ⟨w.heap.size+1,5,none⟩=some (cur w' ⟨w.heap.size+1,5,none⟩)∧w'.frozen? ⟨w.heap.size+1,0,none⟩=false∧w'.frozen? ⟨w.heap.size+1,1,none⟩=false∧w'.frozen? ⟨w.heap.size+1,2,none⟩=false∧w'.frozen? ⟨w.heap.size+1,3,none⟩=false∧w'.frozen? ⟨w.heap.size+1,4,none⟩=false∧w'.frozen? ⟨w.heap.size+1,5,none⟩=false∧Ah 6 48 wB (w.heap.size+1) w'∧Ag' wB w')
   (first | with_reducible exact H0' | with_reducible exact hk1' | with_reducible exact hk2' | exact hk2.store)
   (first | (go_at_call 67;refine ((HY _ hk1).out).mono ?_;rintro e w2 ⟨v2,rfl,hv2,hbl2⟩;obtain ⟨C3,j3,C4,j4,rfl,-,-⟩:=id hv2.opened;have hk2:=hk1.call hbl2;have hk2':=hk2;unfold Af' at hk2') | (go_at_call 67;refine ((HX _ H0).out).mono ?_;rintro e w1 ⟨v1,rfl,hv1,hbl1⟩;obtain ⟨C1,j1,C2,j2,rfl,-,-⟩:=id hv1.opened;have hk1:=H0.call hbl1;have hk1':=hk1;unfold Af' at hk1'))
 rename_i hHl
 clear hHl
 have hv1':=hv1.keep hbl2
 have HD:=hk2.done (p:=qq) (q:=rr) (s1:=decide (qq.num<0)) (A1:=C1) (n1:=len qq.num.natAbs) (c1:=j1) (A2:=C2) (n2:=len (below qq.den)) (c2:=j2) (s2:=decide (rr.num<0)) (A3:=C3) (n3:=len rr.num.natAbs) (c3:=j3) (A4:=C4) (n4:=len (below rr.den)) (c4:=j4) (hv1') (hv2)
 obtain ⟨d1,d2,d3⟩:=HD
 obtain ⟨r0,r1,r2,r3,r4,r5⟩:=Ad' d3
 have HD:=hid (And.intro d1 d2)
 clear d1 d2 d3
 go_wp2_with fail
 refine bP (v:=.agg #[.bool (decide (qq.num<0)),.slice (C1) (len qq.num.natAbs) (j1),.slice (C2) (len (below qq.den)) (j2),.bool (decide (rr.num<0)),.slice (C3) (len rr.num.natAbs) (j3),.slice (C4) (len (below rr.den)) (j4)]) ?_ rfl ⟨_,rfl,HD.out.1,Ae HB0.out (by omega) HD.out.2⟩
 simp [results,Tryz.results23,go_sem,r0,r1,r2,r3,r4,r5]
end Go.Proofs.YtlcimajjnfbidaaGreatDoor
namespace Go.Proofs.YtlcimajjnfbidaaGreatDoor.Rf
open Lib (hid)
open Go.RowKit
open Rx
open Vx (Aa' Ao Ao')
open List renaming getElem?_toArray → lg, getElem?_cons_zero → lz, getElem?_cons_succ → ls, setIfInBounds_toArray → lt, set_cons_zero → ly, set_cons_succ → lu
theorem Cb {w:World} {vx vy:Value} {a b p:Rat} {r:Bool} (hr:decide (a≤p∧p≤b)=r) (hx:Aq w vx a b) (hy:Ah' w vy p) (sa:Aa' a≤16777216) (sb:Aa' b≤16777216) (sp:Aa' p≤16777216) :
   Calls Tryz.prog 35 #[vx,vy] w (AM w r):=by
 obtain ⟨c1,e1⟩:=eY (cmpQ a p:Int)
 obtain ⟨c2,e2⟩:=eY (cmpQ p b:Int)
 have ta:Aa' a≤268435456:=by omega
 have tb:Aa' b≤268435456:=by omega
 have tp:Aa' p≤268435456:=by omega
 clear sa sb sp
 replace ta:=hid ta
 replace tb:=hid tb
 replace tp:=hid tp
 rcases Decidable.em (a≤p) with h | h
 · have d1:decide (c1≤0)=true:=dT_ (by rw [←e1];exact Bg'.2 h)
   have d2:decide (c2≤0)=r:=by
     rw [←hr,←e2]
     exact decide_eq_decide.2 ⟨fun k=>⟨h,Bg'.1 k⟩,fun k=>Bg'.2 k.2⟩
   replace e1:=hid e1
   replace e2:=hid e2
   clear h hr
   obtain ⟨C1,j1,C2,j2,C3,j3,C4,j4,rfl,hxl,hxh⟩:=id hx.opened
   replace hx:=hid hx
   replace hxl:=hid hxl
   replace hxh:=hid hxh
   obtain ⟨C5,j5,C6,j6,rfl,-,-⟩:=id hy.opened
   replace hy:=hid hy
   obtain ⟨w1,hw1⟩:=eX (((w.alloc (.cells #[.bool (decide (a.num<0)),.slice C1 (len a.num.natAbs) j1,.slice C2 (len a.den) j2,.bool (decide (b.num<0)),.slice C3 (len b.num.natAbs) j3,.slice C4 (len b.den) j4] 50)).alloc (.cells #[.bool (decide (p.num<0)),.slice C5 (len p.num.natAbs) j5,.slice C6 (len p.den) j6] 39)))
   obtain ⟨b1,g1,g2⟩:=Aq' hw1
   replace g1:=hid g1
   replace g2:=hid g2
   replace b1:=hid b1
   go_enter Tryz.func35,Tryz.ntmps35
   go_upto_region 1 with fail
   rw [←hw1]
   clear hw1
   have hg:w1.heap[w.heap.size]?=some (.cells #[.bool (decide (a.num<0)),.slice C1 (len a.num.natAbs) j1,.slice C2 (len a.den) j2,.bool (decide (b.num<0)),.slice C3 (len b.num.natAbs) j3,.slice C4 (len b.den) j4] 50 (0,0)):=((Below.refl _ w1).block _ (gE.1 g1.out).1).trans g1.out
   obtain ⟨z_x_0,z_x_1,z_x_2,z_x_3,z_x_4,z_x_5⟩:=Ad' hg
   clear hg
   have hg:w1.heap[w.heap.size+1]?=some (.cells #[.bool (decide (p.num<0)),.slice C5 (len p.num.natAbs) j5,.slice C6 (len p.den) j6] 39 (0,0)):=((Below.refl _ w1).block _ (gE.1 g2.out).1).trans g2.out
   obtain ⟨z_y_0,z_y_1,z_y_2⟩:=Ab' hg
   clear hg
   have HX:=hid (Bq' e1.out (hxl.out.keep b1.out) (hy.out.keep b1.out) ta.out tp.out)
   go_wp2_with fail
   refine (HX.out).mono ?_
   rintro e w2 ⟨rfl,b2⟩
   replace b2:=hid b2
   clear HX
   clear z_x_0 z_x_1 z_x_2 z_x_3 z_x_4 z_x_5 z_y_0 z_y_1 z_y_2
   have hg:w2.heap[w.heap.size]?=some (.cells #[.bool (decide (a.num<0)),.slice C1 (len a.num.natAbs) j1,.slice C2 (len a.den) j2,.bool (decide (b.num<0)),.slice C3 (len b.num.natAbs) j3,.slice C4 (len b.den) j4] 50 (0,0)):=(b2.out.block _ (gE.1 g1.out).1).trans g1.out
   obtain ⟨z_x_0,z_x_1,z_x_2,z_x_3,z_x_4,z_x_5⟩:=Ad' hg
   clear hg
   have hg:w2.heap[w.heap.size+1]?=some (.cells #[.bool (decide (p.num<0)),.slice C5 (len p.num.natAbs) j5,.slice C6 (len p.den) j6] 39 (0,0)):=(b2.out.block _ (gE.1 g2.out).1).trans g2.out
   obtain ⟨z_y_0,z_y_1,z_y_2⟩:=Ab' hg
   clear hg
   have HX:=hid (Bq' e2.out (hy.out.keep (bS b1.out b2.out)) (hxh.out.keep (bS b1.out b2.out)) tp.out tb.out)
   go_wp2_with fail
   refine (HX.out).mono ?_
   rintro e w3 ⟨rfl,b3⟩
   replace b3:=hid b3
   clear HX
   clear z_x_0 z_x_1 z_x_2 z_x_3 z_x_4 z_x_5 z_y_0 z_y_1 z_y_2
   have HE:=hid (bS (bS b1.out b2.out) b3.out)
   go_wp2_with fail
   go_ret
   exact ⟨rfl,HE.out⟩
 · have d1:decide (c1≤0)=false:=dF_ (by rw [←e1];exact fun k=>h (Bg'.1 k))
   have d2:r=false:=by rw [←hr];exact dF_ (fun k=>h k.1)
   subst d2
   replace e1:=hid e1
   clear h hr e2
   obtain ⟨C7,j7,C8,j8,C9,j9,C10,j10,rfl,hxl,hxh⟩:=id hx.opened
   replace hx:=hid hx
   replace hxl:=hid hxl
   replace hxh:=hid hxh
   obtain ⟨C11,j11,C12,j12,rfl,-,-⟩:=id hy.opened
   replace hy:=hid hy
   obtain ⟨w1,hw1⟩:=eX (((w.alloc (.cells #[.bool (decide (a.num<0)),.slice C7 (len a.num.natAbs) j7,.slice C8 (len a.den) j8,.bool (decide (b.num<0)),.slice C9 (len b.num.natAbs) j9,.slice C10 (len b.den) j10] 50)).alloc (.cells #[.bool (decide (p.num<0)),.slice C11 (len p.num.natAbs) j11,.slice C12 (len p.den) j12] 39)))
   obtain ⟨b1,g1,g2⟩:=Aq' hw1
   replace g1:=hid g1
   replace g2:=hid g2
   replace b1:=hid b1
   go_enter Tryz.func35,Tryz.ntmps35
   go_upto_region 1 with fail
   rw [←hw1]
   clear hw1
   have hg:w1.heap[w.heap.size]?=some (.cells #[.bool (decide (a.num<0)),.slice C7 (len a.num.natAbs) j7,.slice C8 (len a.den) j8,.bool (decide (b.num<0)),.slice C9 (len b.num.natAbs) j9,.slice C10 (len b.den) j10] 50 (0,0)):=((Below.refl _ w1).block _ (gE.1 g1.out).1).trans g1.out
   obtain ⟨z_x_0,z_x_1,z_x_2,z_x_3,z_x_4,z_x_5⟩:=Ad' hg
   clear hg
   have hg:w1.heap[w.heap.size+1]?=some (.cells #[.bool (decide (p.num<0)),.slice C11 (len p.num.natAbs) j11,.slice C12 (len p.den) j12] 39 (0,0)):=((Below.refl _ w1).block _ (gE.1 g2.out).1).trans g2.out
   obtain ⟨z_y_0,z_y_1,z_y_2⟩:=Ab' hg
   clear hg
   have HX:=hid (Bq' e1.out (hxl.out.keep b1.out) (hy.out.keep b1.out) ta.out tp.out)
   go_wp2_with fail
   refine (HX.out).mono ?_
   rintro e w2 ⟨rfl,b2⟩
   replace b2:=hid b2
   clear HX
   clear z_x_0 z_x_1 z_x_2 z_x_3 z_x_4 z_x_5 z_y_0 z_y_1 z_y_2
   have HE:=hid (bS b1.out b2.out)
   go_wp2_with fail
   go_ret
   exact ⟨rfl,HE.out⟩
theorem A2' {w:World} {vx vy:Value} {a b:Rat} (hx:Am' w vx a b) (hy:Aq w vy a b) (sa:Aa' a≤4100) (sb:Aa' b≤4100) (hT:TabAt 0 Lib.deBruijn64tab w) :
   Calls Tryz.prog 16 #[vx,vy] w (AM w true):=by
 have s1:Aa' a≤536870912:=by omega
 have s2:Aa' b≤536870912:=by omega
 replace s1:=hid s1
 replace s2:=hid s2
 replace sa:=hid sa
 replace sb:=hid sb
 replace hT:=hid hT
 obtain ⟨C1,j1,C2,j2,C3,j3,C4,j4,rfl,hxl,hxh⟩:=id hx.opened
 replace hx:=hid hx
 replace hxl:=hid hxl
 replace hxh:=hid hxh
 obtain ⟨C5,j5,C6,j6,C7,j7,C8,j8,rfl,hyl,hyh⟩:=id hy.opened
 replace hy:=hid hy
 replace hyl:=hid hyl
 replace hyh:=hid hyh
 obtain ⟨w1,hw1⟩:=eX (((w.alloc (.cells #[.bool (decide (a.num<0)),.slice C1 (Vx.len a.num.natAbs) j1,.slice C2 (Vx.len (below a.den)) j2,.bool (decide (b.num<0)),.slice C3 (Vx.len b.num.natAbs) j3,.slice C4 (Vx.len (below b.den)) j4] 48)).alloc (.cells #[.bool (decide (a.num<0)),.slice C5 (len a.num.natAbs) j5,.slice C6 (len a.den) j6,.bool (decide (b.num<0)),.slice C7 (len b.num.natAbs) j7,.slice C8 (len b.den) j8] 50)))
 obtain ⟨b1,g1,g2⟩:=Aq' hw1
 replace g1:=hid g1
 replace g2:=hid g2
 replace b1:=hid b1
 go_enter Tryz.func16,Tryz.ntmps16
 go_upto_region 1 with fail
 rw [←hw1]
 clear hw1
 go_wp2_with fail
 have HSZa:Hid ((w.heap.size+2)≤w1.heap.size):=hid (by have:=AO (Ac' g2.out (Below.refl _ w1));omega)
 have hg:w1.heap[w.heap.size]?=some (.cells #[.bool (decide (a.num<0)),.slice C1 (Vx.len a.num.natAbs) j1,.slice C2 (Vx.len (below a.den)) j2,.bool (decide (b.num<0)),.slice C3 (Vx.len b.num.natAbs) j3,.slice C4 (Vx.len (below b.den)) j4] 48 (0,0)):=((Below.refl _ w1).block _ (gE.1 g1.out).1).trans g1.out
 obtain ⟨z_x_0,z_x_1,z_x_2,z_x_3,z_x_4,z_x_5⟩:=Ad' hg
 clear hg
 have hlta_x:w.heap.size<(w.heap.size+2):=by omega
 have hg:w1.heap[w.heap.size+1]?=some (.cells #[.bool (decide (a.num<0)),.slice C5 (len a.num.natAbs) j5,.slice C6 (len a.den) j6,.bool (decide (b.num<0)),.slice C7 (len b.num.natAbs) j7,.slice C8 (len b.den) j8] 50 (0,0)):=((Below.refl _ w1).block _ (gE.1 g2.out).1).trans g2.out
 obtain ⟨z_y_0,z_y_1,z_y_2,z_y_3,z_y_4,z_y_5⟩:=Ad' hg
 clear hg
 have hlta_y:w.heap.size+1<(w.heap.size+2):=by omega
 have H0:=Ae'.start w1 (w.heap.size+2)
 have H0':=H0
 unfold Ae' at H0'
 refine wp_region_held_drew (S:=(fun w'=>(∀ b o,b<(w.heap.size+2)→w'.cell? ⟨b,o,none⟩=w1.cell? ⟨b,o,none⟩)∧Below ((w.heap.size+2)) w1 w'∧Ag' w1 w')) (by kernel_rfl) ?_ (fun hHeld=>?_)
 · (try dsimp only)
   exact H0'
 obtain ⟨w2,hw2⟩:=eX w1.drew
 have b2:Hid (Below w1.heap.size w1 w2):=by rw [hw2];exact ⟨rfl,rfl,rfl,nL _,fun _ _=>rfl⟩
 rw [←hw2] at hHeld H0 ⊢
 clear hw2 H0'
 refine tk (i:=0) (h:=?_)
 try simp only [Act.put,lt,ly,lu]
 refine tk (i:=2) (h:=?_)
 try simp only [Act.put,lt,ly,lu]
 refine tk (i:=3) (h:=?_)
 try simp only [Act.put,lt,ly,lu]
 refine rd (i:=1) (h:=fun K hK=>?_);go_simp;go_at_call 51
 refine (Cf (hx.out.keep (bS b1.out b2.out)) (nT s1.out (by omega))).mono ?_
 rintro e w3 ⟨v3,rfl,hv3,b3⟩
 obtain ⟨C9,j9,C10,j10,rfl,-,-⟩:=id hv3.opened
 replace hv3:=hid hv3
 replace b3:=hid b3
 have hk3:=Ak' H0 HSZa b3.out;clear hHeld H0
 refine hK.out _ _ (by (try dsimp only);with_reducible exact hun hk3) (fun hHeld=>?_)
 clear hK K;try simp only [Act.put,lt,ly,lu]
 refine rd (i:=4) (h:=fun K hK=>?_);go_simp;go_at_call 12
 refine (E7' hv3.out (hyl.out.keep (bS (bS b1.out b2.out) b3.out)) sa.out (tab_keep hT.out (bS (bS b1.out b2.out) b3.out))).mono ?_
 rintro e w4 ⟨rfl,b4⟩
 replace b4:=hid b4
 have hk4:=Ak' hk3 HSZa b4.out;clear hHeld hk3
 refine hK.out _ _ (by (try dsimp only);with_reducible exact hun hk4) (fun hHeld=>?_)
 clear hK K;try simp only [Act.put,lt,ly,lu]
 refine tk (i:=5) (h:=?_)
 try simp only [Act.put,lt,ly,lu]
 refine tk (i:=6) (h:=?_)
 try simp only [Act.put,lt,ly,lu]
 refine tk (i:=8) (h:=?_)
 try simp only [Act.put,lt,ly,lu]
 refine tk (i:=9) (h:=?_)
 try simp only [Act.put,lt,ly,lu]
 refine rd (i:=7) (h:=fun K hK=>?_);go_simp;go_at_call 52
 refine (Cf' (hx.out.keep (bS (bS (bS b1.out b2.out) b3.out) b4.out)) (nT s2.out (by omega))).mono ?_
 rintro e w5 ⟨v5,rfl,hv5,b5⟩
 obtain ⟨C11,j11,C12,j12,rfl,-,-⟩:=id hv5.opened
 replace hv5:=hid hv5
 replace b5:=hid b5
 have hk5:=Ak' hk4 HSZa b5.out;clear hHeld hk4
 refine hK.out _ _ (by (try dsimp only);with_reducible exact hun hk5) (fun hHeld=>?_)
 clear hK K;try simp only [Act.put,lt,ly,lu]
 refine rd (i:=10) (h:=fun K hK=>?_);go_simp;go_at_call 12
 refine (E7' hv5.out (hyh.out.keep (bS (bS (bS (bS b1.out b2.out) b3.out) b4.out) b5.out)) sb.out (tab_keep hT.out (bS (bS (bS (bS b1.out b2.out) b3.out) b4.out) b5.out))).mono ?_
 rintro e w6 ⟨rfl,b6⟩
 replace b6:=hid b6
 have hk6:=Ak' hk5 HSZa b6.out;clear hHeld hk5
 refine hK.out _ _ (by (try dsimp only);with_reducible exact hun hk6) (fun hHeld=>?_)
 clear hK K;try simp only [Act.put,lt,ly,lu]
 refine tk (i:=11) (h:=?_)
 try simp only [Act.put,lt,ly,lu]
 refine tk (i:=12) (h:=?_)
 try simp only [Act.put,lt,ly,lu]
 have HE:=hid (bS (bS (bS (bS (bS b1.out b2.out) b3.out) b4.out) b5.out) b6.out)
 refine wpAnyH_done (by kernel_rfl) ?_ _
 clear hHeld
 go_wp2_with fail
 go_ret
 exact ⟨rfl,HE.out⟩
theorem DI {w:World} {vx:Value} {a b:Rat} (ha:a=0) (hb:b=0) (hx:Am' w vx a b) :
   Calls Tryz.prog 32 #[vx] w (AM w true):=by
 have ea:a.num.sign=0:=by rw [ha];rfl
 have eb:b.num.sign=0:=by rw [hb];rfl
 have s1:Aa' a≤3:=by rw [ha];decide +kernel
 have s2:Aa' b≤3:=by rw [hb];decide +kernel
 clear ha hb
 replace ea:=hid ea
 replace eb:=hid eb
 replace s1:=hid s1
 replace s2:=hid s2
 obtain ⟨C1,j1,C2,j2,C3,j3,C4,j4,rfl,hxl,hxh⟩:=id hx.opened
 replace hx:=hid hx
 replace hxl:=hid hxl
 replace hxh:=hid hxh
 obtain ⟨w1,hw1⟩:=eX ((w.alloc (.cells #[.bool (decide (a.num<0)),.slice C1 (Vx.len a.num.natAbs) j1,.slice C2 (Vx.len (below a.den)) j2,.bool (decide (b.num<0)),.slice C3 (Vx.len b.num.natAbs) j3,.slice C4 (Vx.len (below b.den)) j4] 48)))
 have b1:=Ai w (.cells #[.bool (decide (a.num<0)),.slice C1 (Vx.len a.num.natAbs) j1,.slice C2 (Vx.len (below a.den)) j2,.bool (decide (b.num<0)),.slice C3 (Vx.len b.num.natAbs) j3,.slice C4 (Vx.len (below b.den)) j4] 48)
 have g1:=hA_ w (.cells #[.bool (decide (a.num<0)),.slice C1 (Vx.len a.num.natAbs) j1,.slice C2 (Vx.len (below a.den)) j2,.bool (decide (b.num<0)),.slice C3 (Vx.len b.num.natAbs) j3,.slice C4 (Vx.len (below b.den)) j4] 48)
 rw [←hw1] at b1 g1
 replace g1:=hid g1
 replace b1:=hid b1
 go_enter Tryz.func32,Tryz.ntmps32
 go_upto_region 1 with fail
 rw [←hw1]
 clear hw1
 have hg:w1.heap[w.heap.size]?=some (.cells #[.bool (decide (a.num<0)),.slice C1 (Vx.len a.num.natAbs) j1,.slice C2 (Vx.len (below a.den)) j2,.bool (decide (b.num<0)),.slice C3 (Vx.len b.num.natAbs) j3,.slice C4 (Vx.len (below b.den)) j4] 48 (0,0)):=((Below.refl _ w1).block _ (gE.1 g1.out).1).trans g1.out
 obtain ⟨z_x_0,z_x_1,z_x_2,z_x_3,z_x_4,z_x_5⟩:=Ad' hg
 clear hg
 have HX:=hid (Cf (hx.out.keep b1.out) (nT s1.out (by omega)))
 go_wp2_with fail
 refine (HX.out).mono ?_
 rintro e w2 ⟨v2,rfl,hv2,b2⟩
 obtain ⟨C5,j5,C6,j6,rfl,-,-⟩:=id hv2.opened
 replace hv2:=hid hv2
 replace b2:=hid b2
 clear HX
 clear z_x_0 z_x_1 z_x_2 z_x_3 z_x_4 z_x_5
 have HX:=hid (Fa ea.out hv2.out)
 go_wp2_with fail
 refine (HX.out).mono ?_
 rintro e w3 ⟨rfl,b3⟩
 replace b3:=hid b3
 clear HX
 have hg:w3.heap[w.heap.size]?=some (.cells #[.bool (decide (a.num<0)),.slice C1 (Vx.len a.num.natAbs) j1,.slice C2 (Vx.len (below a.den)) j2,.bool (decide (b.num<0)),.slice C3 (Vx.len b.num.natAbs) j3,.slice C4 (Vx.len (below b.den)) j4] 48 (0,0)):=((bS b2.out b3.out).block _ (gE.1 g1.out).1).trans g1.out
 obtain ⟨z_x_0,z_x_1,z_x_2,z_x_3,z_x_4,z_x_5⟩:=Ad' hg
 clear hg
 have HX:=hid (Cf' (hx.out.keep (bS (bS b1.out b2.out) b3.out)) (nT s2.out (by omega)))
 go_wp2_with fail
 refine (HX.out).mono ?_
 rintro e w4 ⟨v4,rfl,hv4,b4⟩
 obtain ⟨C7,j7,C8,j8,rfl,-,-⟩:=id hv4.opened
 replace hv4:=hid hv4
 replace b4:=hid b4
 clear HX
 clear z_x_0 z_x_1 z_x_2 z_x_3 z_x_4 z_x_5
 have HX:=hid (Fa eb.out hv4.out)
 go_wp2_with fail
 refine (HX.out).mono ?_
 rintro e w5 ⟨rfl,b5⟩
 replace b5:=hid b5
 clear HX
 have HE:=hid (bS (bS (bS (bS b1.out b2.out) b3.out) b4.out) b5.out)
 go_wp2_with fail
 go_ret
 exact ⟨rfl,HE.out⟩
theorem Bh {w u:World} {o:Obj} (h:u=w.alloc o):u.heap[w.heap.size]?=some o:=h ▸ hA_ w o
theorem BE {w u:World} {o:Obj} (h:u=w.alloc o):Below w.heap.size w u:=h ▸ Ai w o
theorem Ih' {w u:World} {o1 o2:Obj} (h:u=(w.alloc o1).alloc o2):Below w.heap.size w u∧u.heap[w.heap.size]?=some o1∧u.heap[w.heap.size+1]?=some o2:=h ▸ CR' w o1 o2
def H6 (w:World) (cx cg:Array Value) (p g:Rat) (wr:World):Prop :=
  wr.heap[w.heap.size]?=some (.cells cx 39 (0,0))∧wr.heap[w.heap.size+1]?=some (.cells cg 39 (0,0))∧wr.heap[w.heap.size+2]?=some (.cells #[.bool false,.slice none 0 0,.slice none 0 0] 39 (0,0))∧Ah' wr (.agg cx) p∧Ah' wr (.agg cg) g∧Below w.heap.size w wr
theorem H6.keep {w:World} {cx cg:Array Value} {p g:Rat} {u v:World} (h:H6 w cx cg p g u) (hb:Below u.heap.size u v):H6 w cx cg p g v :=
 ⟨Ac' h.1 hb,Ac' h.2.1 hb,Ac' h.2.2.1 hb,h.2.2.2.1.keep hb,h.2.2.2.2.1.keep hb,chain h.2.2.2.2.2 hb⟩
def Ea' (P:Program) (ops:Array Oper) (Q:Exit→Act→World→Prop) (s:Nat) (e:Exit) (a:Act) (w:World):Prop :=
  match e with
  | .normal=>wpOp P ops Q s (Q .normal) a w
  | e=>Q e a w
theorem ID' {P:Program} {ops:Array Oper} {Q:Exit→Act→World→Prop} {s:Nat} {o:Oper} {a:Act} {w:World} {K:Act→World→Prop}:o.wp P a w K (Ea' P ops Q s)=o.wp P a w K Q:=by
 unfold Oper.wp Oper.upon
 split <;> rfl
theorem IE {P:Program} {ops:Array Oper} {Q:Exit→Act→World→Prop} {s i:Nat} {o d:Oper} (ho:ops[s]?=some o) (hds:d.dst=o.dst) (hne:i≠s) {a:Act} {w:World} {K:Act→World→Prop} :
   wpOp P (ops.setIfInBounds s d) (Ea' P ops Q s) i K a w=wpOp P ops Q i K a w:=by
 have hg:(ops.setIfInBounds s d)[i]?=ops[i]?:=Array.getElem?_setIfInBounds_ne (Ne.symm hne)
 have hy:yielded (ops.setIfInBounds s d) a.tmps=yielded ops a.tmps:=by
   funext j
   unfold yielded
   rcases Nat.decEq s j with h | h
   · rw [Array.getElem?_setIfInBounds_ne h]
   · subst h
     have hlt:s<ops.size:=(gE.1 ho).1
     rw [Array.getElem?_setIfInBounds_self_of_lt hlt,ho]
     simp only [Option.bind_some,hds]
 unfold wpOp
 rw [hg,hy]
 cases ops[i]? with
 | none=>rfl
 | some x=>dsimp only;rw [ID'];rfl
theorem CZ' {ops:Array Oper} {md:Region.Mode} {s:Nat} {o d:Oper} (ho:ops[s]?=some o) (hda:d.after=o.after) (listed:Array Bool):Region.ready md (ops.setIfInBounds s d) listed=Region.ready md ops listed:=by
 have hlt:s<ops.size:=(gE.1 ho).1
 unfold Region.ready
 rw [Array.size_setIfInBounds]
 congr 1
 funext i
 rcases Nat.decEq s i with h | h
 · rw [Array.getElem?_setIfInBounds_ne h]
 · subst h
   rw [Array.getElem?_setIfInBounds_self_of_lt hlt,ho]
   simp only [Option.map_some,hda]
def lastB (md:Region.Mode) (ops:Array Oper) (s:Nat):Bool :=
  (List.range ops.size).all fun i=>match ops[i]? with
    | some x=>x.after.all (fun e => !Region.binds md e || decide (e.on<i)) && (decide (i=s) || (match ops[s]? with | some y=>y.after.any fun e=>Region.binds md e && decide (e.on=i) | none=>false))
    | none=>true
theorem DV {ops:Array Oper} {md:Region.Mode} {listed:Array Bool} (hl:listed.size=ops.size) (h:∀ i x,ops[i]?=some x→∀ e∈x.after,Region.binds md e=true→e.on<i) :
   ∀ n s,s≤n→s<ops.size→listed.getD s true=false→Region.ready md ops listed≠[]:=by
 intro n
 induction n with
 | zero =>
   intro s hs hlt hu
   obtain rfl:s=0:=by omega
   intro h0
   have:0∈Region.ready md ops listed:=mem_ready.2 ⟨hu,ops[0],by simp [hlt],fun e he hb=>absurd (h 0 _ (by simp [hlt]) e he hb) (by omega)⟩
   rw [h0] at this
   cases this
 | succ n ih =>
   intro s hs hlt hu
   rcases Decidable.em (∃ j,j<s∧listed.getD j true=false) with ⟨j,hj,hju⟩ | hall
   · exact ih j (by omega) (by omega) hju
   · intro h0
     have:s∈Region.ready md ops listed:=mem_ready.2 ⟨hu,ops[s],by simp [hlt],fun e he hb=>by
       have h1:=h s _ (by simp [hlt]) e he hb
       have h2:¬ listed.getD e.on true=false:=fun k=>hall ⟨_,h1,k⟩
       have h3:e.on<listed.size:=by omega
       simp only [Array.getD,h3,dif_pos] at h2 ⊢
       simpa using h2⟩
     rw [h0] at this
     cases this
theorem H6' {P:Program} {ops:Array Oper} {Q:Exit→Act→World→Prop} {md:Region.Mode} {s:Nat} {o d:Oper} {v:Value} (ho:ops[s]?=some o) (hds:d.dst=o.dst) (hd0:d.dst=none) (hda:d.after=o.after) (hdg:d.guard=none)
   (hrun:∀ (a:Act) (w:World),(execOp a.eval d).run P w=.ok (.value v) w) (hask:∀ a w,¬ d.asks P a w)
   (hlow:∀ i x,ops[i]?=some x→∀ e∈x.after,Region.binds md e=true→e.on<i) (hall:∀ j,j≠s→j<ops.size→∃ e∈o.after,Region.binds md e=true∧e.on=j) :
   ∀ (fuel:Nat) (listed:Array Bool) (a:Act) (w:World),listed.size=ops.size→listed.getD s true=false →
     wpAny P md (ops.setIfInBounds s d) (Ea' P ops Q s) fuel listed a w→wpAny P md ops Q fuel listed a w:=by
 have hlt:s<ops.size:=(gE.1 ho).1
 intro fuel
 induction fuel with
 | zero =>
   intro listed a w hsz hu h
   have:=h.1
   rw [CZ' ho hda] at this
   exact absurd this (DV hsz hlow s s (nL _) hlt hu)
 | succ fuel ih =>
   intro listed a w hsz hu h
   refine ⟨fun h0=>absurd h0 (DV hsz hlow s s (nL _) hlt hu),fun i hi=>?_⟩
   have h1:=h.2 i (by rw [CZ' ho hda];exact hi)
   rcases Nat.decEq i s with hne | rfl
   · rw [IE ho hds hne] at h1
     refine wpOp_mono (fun a' w' k=>ih _ a' w' (by rw [Array.size_setIfInBounds];exact hsz) (by rw [getD_set_ne true hne];exact hu) k) h1
   · -- the last one: all others are listed
     obtain ⟨hun,o',ho',hw⟩:=mem_ready.1 hi
     obtain rfl:o'=o:=Option.some.inj (ho'.symm.trans ho)
     have hdone:Region.ready md ops (listed.setIfInBounds i true)=[]:=by
       rw [List.eq_nil_iff_forall_not_mem]
       intro j hj
       obtain ⟨hj0,x,hx,-⟩:=mem_ready.1 hj
       rcases Nat.decEq j i with hji | rfl
       · have hjlt:j<ops.size:=(gE.1 hx).1
         obtain ⟨e,he,hb,rfl⟩:=hall j hji hjlt
         have h2:=hw e he hb
         rw [getD_set_ne true (Ne.symm hji)] at hj0
         have h3:e.on<listed.size:=by omega
         simp only [Array.getD,h3,dif_pos] at h2 hj0
         rw [h2] at hj0
         cases hj0
       · have h3:j<listed.size:=by omega
         simp [h3] at hj0
     -- what the dummy leaves
     have hK:wpOp P ops Q i (Q .normal) a w:=by
       unfold wpOp at h1
       rw [Array.getElem?_setIfInBounds_self_of_lt hlt] at h1
       dsimp only at h1
       rw [if_pos (by simp [Region.wanted,hdg])] at h1
       rcases h1 with h1 | ⟨h1,-⟩
       · unfold Oper.wp at h1
         rw [hrun,Oper.upon_value,hd0] at h1
         have h1':wpAny P md (ops.setIfInBounds i d) (Ea' P ops Q i) fuel (listed.setIfInBounds i true) a w:=h1
         have hr:Region.ready md (ops.setIfInBounds i d) (listed.setIfInBounds i true)=[]:=by rw [CZ' ho hda];exact hdone
         cases fuel with
         | zero=>exact h1'.2
         | succ f=>exact h1'.1 hr
       · exact absurd h1 (hask a w)
     exact wpOp_mono (fun a' w' k=>wpAny_done hdone k fuel) hK
def DI' (o:Oper):Oper:={ o with op:=.move (.const (.bool false)),dst:=none,guard:=none }
theorem H7 {P:Program} (o:Oper) (a:Act) (w:World):(execOp a.eval (DI' o)).run P w=.ok (.value (.bool false)) w:=by
 simp [DI',execOp,go_sem]
theorem H7' {P:Program} (o:Oper) (a:Act) (w:World):¬ (DI' o).asks P a w:=by
 intro h
 have h1:=h.1
 simp [DI',execOp,go_sem] at h1
 have h2:noRoomEvent∈(#[]:Array Event):=h1
 simp at h2
theorem Fy {P:Program} {id s:Nat} {ops:Array Oper} {Q:Exit→Act→World→Prop} {o:Oper} {S:World→Prop} {a:Act} {w:World} (hm:P.follows .mixedOrders=true) (ho:ops[s]?=some o) (hd0:o.dst=none)
   (hl:lastB .any ops s=true)
   (h:wpAnyH P .any (ops.setIfInBounds s (DI' o)) (Ea' P ops Q s) S ops.size (Array.replicate ops.size false) a w.drew):(Code.region id ops true).wp P Q a w:=by
 have hlt:s<ops.size:=(gE.1 ho).1
 have hl':=fun i (hi:i<ops.size)=>List.all_eq_true.1 hl i (List.mem_range.2 hi)
 refine wp_region_any hm (H6' (d:=DI' o) ho hd0.symm rfl rfl rfl (fun a w=>H7 o a w) (fun a w=>H7' o a w) ?_ ?_ _ _ _ _ (by simp) (by simp [hlt]) (wpAny_of_held _ _ _ _ h))
 · intro i x hx e he hb
   have h1:=hl' i (gE.1 hx).1
   rw [hx] at h1
   simp only [Bool.and_eq_true] at h1
   have h2:=Array.all_eq_true_iff_forall_mem.1 h1.1 e he
   simpa [hb] using h2
 · intro j hj hjl
   have h1:=hl' j hjl
   rw [show ops[j]?=some ops[j] by simp [hjl],ho] at h1
   simp only [Bool.and_eq_true,Bool.or_eq_true,decide_eq_true_eq,hj,false_or] at h1
   obtain ⟨q,hq,h2⟩:=Array.any_eq_true.1 h1.2
   simp only [Bool.and_eq_true,decide_eq_true_eq] at h2
   exact ⟨_,Array.getElem_mem hq,h2.1,h2.2⟩
theorem IE' {P:Program} {ops:Array Oper} {Q:Exit→Act→World→Prop} {s:Nat} {o:Oper} {a:Act} {w:World} (ho:ops[s]?=some o) (hg:o.guard=none) (h:o.wp P a w (Q .normal) Q):Ea' P ops Q s .normal a w:=by
 show wpOp P ops Q s (Q .normal) a w
 unfold wpOp
 rw [ho]
 dsimp only
 rw [if_pos (by simp [Region.wanted,hg])]
 exact .inl h
def BI' (w:World) (b o:Nat) (l:List Rat):Prop:=∀ (i:Nat) (q:Rat),l[i]?=some q→∃ s A1 n1 c1 A2 n2 c2,w.cell? ⟨b,o+i*3,none⟩=some (.bool s)∧w.cell? ⟨b,o+i*3+1,none⟩=some (.slice A1 n1 c1)∧w.cell? ⟨b,o+i*3+2,none⟩=some (.slice A2 n2 c2)∧Ah' w (.agg #[.bool s,.slice A1 n1 c1,.slice A2 n2 c2]) q
theorem BI'.keep {w w':World} {b o:Nat} {l:List Rat} (h:BI' w b o l) (hb:Below w.heap.size w w'):BI' w' b o l:=by
 intro i q hi
 obtain ⟨s,A1,n1,c1,A2,n2,c2,h0,h1,h2,h3⟩:=h i q hi
 have hl:=bL w _ h0
 exact ⟨s,A1,n1,c1,A2,n2,c2,(hb.cell (p:=⟨b,o+i*3,none⟩) hl).trans h0,(hb.cell (p:=⟨b,o+i*3+1,none⟩) hl).trans h1,(hb.cell (p:=⟨b,o+i*3+2,none⟩) hl).trans h2,h3.keep hb⟩
theorem BI'.stay {w w':World} {b o B:Nat} {l:List Rat} (h:BI' w b o l) (hne:b≠B) (hO:∀ (n:Nat) (x:Obj),n≠B→w.heap[n]?=some x→w'.heap[n]?=some x) (hL:BC' w w'):BI' w' b o l:=by
 intro i q hi
 obtain ⟨s,A1,n1,c1,A2,n2,c2,h0,h1,h2,h3⟩:=h i q hi
 have hl:=bL w _ h0
 have he:w'.heap[b]?=w.heap[b]?:=by
   have:w.heap[b]?=some w.heap[b]:=by simp [hl]
   rw [hO b _ hne this,this]
 exact ⟨s,A1,n1,c1,A2,n2,c2,(World.cell?_of_block he).trans h0,(World.cell?_of_block he).trans h1,(World.cell?_of_block he).trans h2,hL.rat h3⟩
def Fc' (w:World) (b o B:Nat) (x0:Rat) (l:List Rat) (k:Nat) (wr:World):Prop :=
  ∃ s1 A1 n1 c1 A2 n2 c2 s2 A3 n3 c3 A4 n4 c4,wr.heap[B]?=some (.cells #[.bool s1,.slice A1 n1 c1,.slice A2 n2 c2,.bool s2,.slice A3 n3 c3,.slice A4 n4 c4] 50 (0,0)) ∧
    Aq wr (.agg #[.bool s1,.slice A1 n1 c1,.slice A2 n2 c2,.bool s2,.slice A3 n3 c3,.slice A4 n4 c4]) (leastOf x0 (l.take k)) (greatestOf x0 (l.take k)) ∧
    BI' wr b o (x0::l)∧wr.heap[w.heap.size]?=some (.cells #[.bool false,.slice none 0 0,.slice none 0 0,.bool false,.slice none 0 0,.slice none 0 0] 50 (0,0))∧Below w.heap.size w wr
theorem Ha' {x0 q:Rat} {l:List Rat} {k:Nat} (h:l[k]?=some q):∀ m,leastOf x0 (l.take k)=m→(if m≤q then m else q)=leastOf x0 (l.take (k+1)):=by
 intro m hm
 rw [BX' h,hm]
 rcases Decidable.em (q<m) with k | k
 · rw [if_pos k,if_neg (Rat.not_le.2 k)]
 · rw [if_neg k,if_pos (Rat.not_lt.1 k)]
theorem Hb' {x0 q:Rat} {l:List Rat} {k:Nat} (h:l[k]?=some q):∀ m,greatestOf x0 (l.take k)=m→(if q≤m then m else q)=greatestOf x0 (l.take (k+1)):=by
 intro m hm
 rw [BD' h,hm]
 rcases Decidable.em (m<q) with k | k
 · rw [if_pos k,if_neg (Rat.not_le.2 k)]
 · rw [if_neg k,if_pos (Rat.not_lt.1 k)]
theorem Gl {x0:Rat} {l:List Rat} {N:Nat} (h:∀ y∈x0::l,Aa' y≤N):∀ k,Aa' (leastOf x0 (l.take k))≤N∧Aa' (greatestOf x0 (l.take k))≤N:=by
 intro k
 induction k with
 | zero=>exact ⟨h x0 (by simp),h x0 (by simp)⟩
 | succ k ih =>
   rcases hq:l[k]? with _ | q
   · have:l.take (k+1)=l.take k:=by rw [List.take_add_one,hq];simp
     rw [this];exact ih
   · rw [BX' hq,BD' hq]
     have hm:=h q (List.mem_cons_of_mem _ (List.mem_of_getElem? hq))
     constructor <;> split <;> first | exact hm | exact ih.1 | exact ih.2
theorem BU' {w:World} {b o c:Nat} {x0 lo hi:Rat} {l:List Rat} (el:leastOf x0 l=lo) (eh:greatestOf x0 l=hi) (hl:BI' w b o (x0::l)) (hn:l.length≤1000) (hs:∀ y∈x0::l,Aa' y≤16777216) :
   Calls Tryz.prog 66 #[.slice (some ⟨b,o,none⟩) (l.length+1) c] w (AZ' w lo hi):=by
 have HS:=hid (Gl hs)
 have HQ:=hid (fun q (hq:q∈x0::l)=>hs q hq)
 have e0l:leastOf x0 (l.take 0)=x0:=rfl
 have e0g:greatestOf x0 (l.take 0)=x0:=rfl
 replace e0l:=hid e0l
 replace e0g:=hid e0g
 clear hs
 replace el:=hid el
 replace eh:=hid eh
 replace hl:=hid hl
 obtain ⟨w1,hw1⟩:=eX ((w.alloc (.cells #[.bool false,.slice none 0 0,.slice none 0 0,.bool false,.slice none 0 0,.slice none 0 0] 50)))
 have b1:=Ai w (.cells #[.bool false,.slice none 0 0,.slice none 0 0,.bool false,.slice none 0 0,.slice none 0 0] 50)
 have g1:=hA_ w (.cells #[.bool false,.slice none 0 0,.slice none 0 0,.bool false,.slice none 0 0,.slice none 0 0] 50)
 rw [←hw1] at b1 g1
 replace g1:=hid g1
 replace b1:=hid b1
 go_enter Tryz.func66,Tryz.ntmps66
 go_upto_region 1 with fail
 rw [←hw1]
 clear hw1
 obtain ⟨s0,A1,n1,c1,A2,n2,c2,z0,z1,z2,hx0⟩:=(hl.out.keep b1.out) 0 x0 rfl
 rw [Nat.zero_mul,Nat.add_zero] at z0 z1 z2
 have hbl:b<w.heap.size:=by obtain ⟨_,_,_,_,_,_,_,y0,_⟩:=hl.out 0 x0 rfl;exact bL w _ y0
 have i1:decide (0<l.length+1)=true:=dT_ (by omega)
 have i2:(0:Int)<((l.length+1:Nat):Int):=by omega
 have HX:=hid (DU' hx0)
 go_wp2_with fail
 refine (HX.out).mono ?_
 rintro e w2 ⟨v2,rfl,hv2,b2⟩
 obtain ⟨C1,j1,C2,j2,C3,j3,C4,j4,rfl,-,-,-,-⟩:=id hv2.opened
 replace hv2:=hid hv2
 replace b2:=hid b2
 clear HX
 clear z0 z1 z2 hx0 i1 i2
 go_upto_region 2 with fail
 obtain ⟨w3,hw3⟩:=eX (w2.alloc (.cells #[.bool (decide (x0.num<0)),.slice C1 (len x0.num.natAbs) j1,.slice C2 (len x0.den) j2,.bool (decide (x0.num<0)),.slice C3 (len x0.num.natAbs) j3,.slice C4 (len x0.den) j4] 50))
 have b3:=hid (BE hw3)
 have L3:=hid (Bh hw3)
 rw [←hw3]
 clear hw3
 have y0_3:=hid (bS (bS b1.out b2.out) b3.out)
 have y1_3:=hid (bS b2.out b3.out)
 obtain ⟨B,hB⟩:=eY w2.heap.size
 have hGB:w.heap.size<B:=by rw [←hB];exact AO (Ac' g1.out b2.out)
 have HE:Hid (Fc' w b o B x0 l 0 w3):=hid ⟨_,_,_,_,_,_,_,_,_,_,_,_,_,_,by rw [←hB];exact L3.out,by rw [e0l.out,e0g.out];exact (hv2.out.keep b3.out),hl.out.keep y0_3.out,Ac' g1.out y1_3.out,y0_3.out⟩
 rw [hB]
 clear hB L3 g1 hl
 go_wp2_with fail
 go_loopw [4] (fun iv wr=>∃ k:Nat,k≤l.length∧iv=.int .i64 ((k+1:Nat):Int)∧Hid (Fc' w b o B x0 l k wr)) (fun iv _=>l.length+1 - (intOf iv).toNat)
 case atStart=>exact ⟨0,Nat.zero_le _,rfl,HE⟩
 case round =>
   obtain ⟨k,hk,rfl,hrel⟩:=hrel
   clear HE
   obtain ⟨s1,A1,n1,c1,A2,n2,c2,s2,A3,n3,c3,A4,n4,c4,g5,hv,hRs,gR,hbw⟩:=hrel.out
   clear hrel
   obtain ⟨m,hm⟩:=eY (leastOf x0 (l.take k))
   obtain ⟨M,hM⟩:=eY (greatestOf x0 (l.take k))
   obtain ⟨tm,tM⟩:=HS.out k
   rw [hm] at hv tm
   rw [hM] at hv tM
   rcases Nat.lt_or_ge k l.length with hkn | hkn
   · obtain ⟨q,hq⟩:∃ q,l[k]?=some q:=⟨l[k],by simp [hkn]⟩
     have tq:=HQ.out q (List.mem_cons_of_mem _ (List.mem_of_getElem? hq))
     have E1:=hid (Ha' hq m hm)
     have E2:=hid (Hb' hq M hM)
     obtain ⟨s5,A5,n5,c5,A6,n6,c6,y0,y1,y2,hxq⟩:=hRs (k+1) q (by simpa using hq)
     obtain ⟨z0,z1,z2,z3,z4,z5⟩:=Ad' g5
     obtain ⟨u,hu⟩:=eY (o+(k+1)*3)
     have hu':o+(k*3+3)=u:=by omega
     rw [hu] at y0 y1 y2
     have hlo:Ah' wr (.agg #[.bool s1,.slice A1 n1 c1,.slice A2 n2 c2]) m:=by
       obtain ⟨v1,v2,v3,v4,e,i1,i2,-,-⟩:=hv
       simp only [Value.agg.injEq,Array.mk.injEq,List.cons.injEq,Value.bool.injEq,and_true] at e
       obtain ⟨rfl,rfl,rfl,-,-,-⟩:=e
       exact ⟨_,_,rfl,i1,i2⟩
     have hhi:Ah' wr (.agg #[.bool s2,.slice A3 n3 c3,.slice A4 n4 c4]) M:=by
       obtain ⟨v1,v2,v3,v4,e,-,-,i1,i2⟩:=hv
       simp only [Value.agg.injEq,Array.mk.injEq,List.cons.injEq,Value.bool.injEq,and_true] at e
       obtain ⟨-,-,-,rfl,rfl,rfl⟩:=e
       exact ⟨_,_,rfl,i1,i2⟩
     have hBl:B<wr.heap.size:=AO g5
     have hbl2:b<wr.heap.size:=ltl hbl hbw.size
     have hin:decide (k+1<l.length+1)=true:=dT_ (by omega)
     have hin2:k+1<l.length+1:=by omega
     have hin3:decide (k<l.length)=true:=dT_ hkn
     have hin4:(0:Int)≤((k:Nat):Int)+1:=by omega
     obtain ⟨m2,em2⟩:=eY (leastOf x0 (l.take (k+1)))
     obtain ⟨M2,eM2⟩:=eY (greatestOf x0 (l.take (k+1)))
     rw [em2] at E1
     rw [eM2] at E2
     replace em2:=hid em2
     replace eM2:=hid eM2
     have hidx:((k+1:Nat):Int).toNat=k+1:=Int.toNat_natCast _
     clear hm hM hv
     replace hlo:=hid hlo
     replace hhi:=hid hhi
     replace hxq:=hid hxq
     replace g5:=hid g5
     replace hRs:=hid hRs
     replace gR:=hid gR
     replace hbw:=hid hbw
     replace hq:=hid hq
     replace tm:=hid tm
     replace tM:=hid tM
     replace tq:=hid tq
     go_upto_region 5 with fail
     go_wp2_with fail
     refine Fy (s:=15) (S:=(fun w'=>(w'.cell? ⟨B,0,none⟩=wr.cell? ⟨B,0,none⟩∧w'.cell? ⟨B,1,none⟩=wr.cell? ⟨B,1,none⟩∧w'.cell? ⟨B,2,none⟩=wr.cell? ⟨B,2,none⟩∧w'.cell? ⟨B,3,none⟩=wr.cell? ⟨B,3,none⟩∧w'.cell? ⟨B,4,none⟩=wr.cell? ⟨B,4,none⟩∧w'.cell? ⟨B,5,none⟩=wr.cell? ⟨B,5,none⟩∧w'.cell? ⟨b,u,none⟩=wr.cell? ⟨b,u,none⟩∧w'.cell? ⟨b,u+1,none⟩=wr.cell? ⟨b,u+1,none⟩∧w'.cell? ⟨b,u+2,none⟩=wr.cell? ⟨b,u+2,none⟩))) (by kernel_rfl) (by rfl) (by rfl) (by kernel_rfl) ?_
     simp only [DI',lt,ly,lu]
     have hHeld:(fun w'=>(w'.cell? ⟨B,0,none⟩=wr.cell? ⟨B,0,none⟩∧w'.cell? ⟨B,1,none⟩=wr.cell? ⟨B,1,none⟩∧w'.cell? ⟨B,2,none⟩=wr.cell? ⟨B,2,none⟩∧w'.cell? ⟨B,3,none⟩=wr.cell? ⟨B,3,none⟩∧w'.cell? ⟨B,4,none⟩=wr.cell? ⟨B,4,none⟩∧w'.cell? ⟨B,5,none⟩=wr.cell? ⟨B,5,none⟩∧w'.cell? ⟨b,u,none⟩=wr.cell? ⟨b,u,none⟩∧w'.cell? ⟨b,u+1,none⟩=wr.cell? ⟨b,u+1,none⟩∧w'.cell? ⟨b,u+2,none⟩=wr.cell? ⟨b,u+2,none⟩)) wr:=⟨rfl,rfl,rfl,rfl,rfl,rfl,rfl,rfl,rfl⟩
     obtain ⟨w91,hw91⟩:=eX wr.drew
     have b91:Hid (Below wr.heap.size wr w91):=hid (by rw [hw91];exact ⟨rfl,rfl,rfl,nL _,fun _ _=>rfl⟩)
     replace hHeld:(fun w'=>(w'.cell? ⟨B,0,none⟩=wr.cell? ⟨B,0,none⟩∧w'.cell? ⟨B,1,none⟩=wr.cell? ⟨B,1,none⟩∧w'.cell? ⟨B,2,none⟩=wr.cell? ⟨B,2,none⟩∧w'.cell? ⟨B,3,none⟩=wr.cell? ⟨B,3,none⟩∧w'.cell? ⟨B,4,none⟩=wr.cell? ⟨B,4,none⟩∧w'.cell? ⟨B,5,none⟩=wr.cell? ⟨B,5,none⟩∧w'.cell? ⟨b,u,none⟩=wr.cell? ⟨b,u,none⟩∧w'.cell? ⟨b,u+1,none⟩=wr.cell? ⟨b,u+1,none⟩∧w'.cell? ⟨b,u+2,none⟩=wr.cell? ⟨b,u+2,none⟩)) w91:=by rw [hw91];exact hHeld
     rw [←hw91]
     clear hw91
     refine tk (i:=0) (h:=?_)
     try simp only [Act.put,lt,ly,lu]
     refine tk (i:=1) (h:=?_)
     try simp only [Act.put,lt,ly,lu]
     refine tk (i:=2) (h:=?_)
     try simp only [Act.put,lt,ly,lu]
     refine tk (i:=3) (h:=?_)
     try simp only [Act.put,lt,ly,lu]
     refine tk (i:=4) (h:=?_)
     try simp only [Act.put,lt,ly,lu]
     refine tk (i:=5) (h:=?_)
     try simp only [Act.put,lt,ly,lu]
     refine tk (i:=7) (h:=?_)
     try simp only [Act.put,lt,ly,lu]
     refine tk (i:=8) (h:=?_)
     try simp only [Act.put,lt,ly,lu]
     refine tk (i:=9) (h:=?_)
     try simp only [Act.put,lt,ly,lu]
     refine tk (i:=10) (h:=?_)
     try simp only [Act.put,lt,ly,lu]
     refine tk (i:=11) (h:=?_)
     try simp only [Act.put,lt,ly,lu]
     refine tk (i:=12) (h:=?_)
     try simp only [Act.put,lt,ly,lu]
     refine rd (i:=6) (h:=fun K hK=>?_);go_simp;go_at_call 72
     refine (Ca E1.out (hlo.out.keep b91.out) (hxq.out.keep b91.out) tm.out tq.out).mono ?_
     rintro e w92 ⟨v92,rfl,hv92,b92⟩
     obtain ⟨C31,j31,C32,j32,rfl,-,-⟩:=id hv92.opened
     replace hv92:=hid hv92
     replace b92:=hid b92
     have y90_92:=hid (bS b91.out b92.out)
     have hS:=y90_92.out
     clear hHeld
     refine hK.out _ _ ?_ (fun hHeld=>?_)
     · (try dsimp only)
       exact ⟨hS.cell (p:=⟨B,0,none⟩) hBl,hS.cell (p:=⟨B,1,none⟩) hBl,hS.cell (p:=⟨B,2,none⟩) hBl,hS.cell (p:=⟨B,3,none⟩) hBl,hS.cell (p:=⟨B,4,none⟩) hBl,hS.cell (p:=⟨B,5,none⟩) hBl,hS.cell (p:=⟨b,u,none⟩) hbl2,hS.cell (p:=⟨b,u+1,none⟩) hbl2,hS.cell (p:=⟨b,u+2,none⟩) hbl2⟩
     clear hK K hS;try simp only [Act.put,lt,ly,lu]
     refine rd (i:=13) (h:=fun K hK=>?_);go_simp;go_at_call 73
     refine (Ca' E2.out (hhi.out.keep y90_92.out) (hxq.out.keep y90_92.out) tM.out tq.out).mono ?_
     rintro e w93 ⟨v93,rfl,hv93,b93⟩
     obtain ⟨C33,j33,C34,j34,rfl,-,-⟩:=id hv93.opened
     replace hv93:=hid hv93
     replace b93:=hid b93
     have y90_93:=hid (bS y90_92.out b93.out)
     have hS:=y90_93.out
     clear hHeld
     refine hK.out _ _ ?_ (fun hHeld=>?_)
     · (try dsimp only)
       exact ⟨hS.cell (p:=⟨B,0,none⟩) hBl,hS.cell (p:=⟨B,1,none⟩) hBl,hS.cell (p:=⟨B,2,none⟩) hBl,hS.cell (p:=⟨B,3,none⟩) hBl,hS.cell (p:=⟨B,4,none⟩) hBl,hS.cell (p:=⟨B,5,none⟩) hBl,hS.cell (p:=⟨b,u,none⟩) hbl2,hS.cell (p:=⟨b,u+1,none⟩) hbl2,hS.cell (p:=⟨b,u+2,none⟩) hbl2⟩
     clear hK K hS;try simp only [Act.put,lt,ly,lu]
     refine tk (i:=14) (h:=?_)
     try simp only [Act.put,lt,ly,lu]
     refine tk (i:=15) (h:=?_)
     try simp only [Act.put,lt,ly,lu]
     refine wpAnyH_done (by kernel_rfl) ?_ _
     clear hHeld y0 y1 y2 z0 z1 z2 z3 z4 z5 hu hu' hin hin2 hin3 hin4 hidx
     have DB:=Ac' g5.out y90_93.out
     have q0:=cR _ _ 0 _ _ _ DB
     have F0:=fR w93 B 0 _ _ DB
     have q1:=cR _ _ 1 _ _ _ DB
     have F1:=fR w93 B 1 _ _ DB
     have q2:=cR _ _ 2 _ _ _ DB
     have F2:=fR w93 B 2 _ _ DB
     have q3:=cR _ _ 3 _ _ _ DB
     have F3:=fR w93 B 3 _ _ DB
     have q4:=cR _ _ 4 _ _ _ DB
     have F4:=fR w93 B 4 _ _ DB
     have q5:=cR _ _ 5 _ _ _ DB
     have F5:=fR w93 B 5 _ _ DB
     simp only [lg,lz,ls] at q0 q1 q2 q3 q4 q5
     obtain ⟨ue,hw⟩:=eX (((((((w93.setCell ⟨B,0,none⟩ (.bool (decide (m2.num<0)))).setCell ⟨B,1,none⟩ (.slice C31 (len m2.num.natAbs) j31)).setCell ⟨B,2,none⟩ (.slice C32 (len m2.den) j32)).setCell ⟨B,3,none⟩ (.bool (decide (M2.num<0)))).setCell ⟨B,4,none⟩ (.slice C33 (len M2.num.natAbs) j33)).setCell ⟨B,5,none⟩ (.slice C34 (len M2.den) j34)))
     obtain ⟨E,OT,LV,BL⟩:=AH DB hw
     have FIN:Hid (Fc' w b o B x0 l (k+1) ue):=hid ⟨_,_,_,_,_,_,_,_,_,_,_,_,_,_,E,by rw [em2.out,eM2.out];exact LV.rbox (Ah'.pair (hv92.out.keep b93.out) hv93.out),(hRs.out.keep y90_93.out).stay (by omega) OT LV,OT _ _ (by omega) (Ac' gR.out y90_93.out),BL _ _ (by omega) (chain hbw.out y90_93.out)⟩
     refine IE' (by rfl) (by rfl) ?_
     clear DB E OT LV BL
     go_simp
     rw [←hw]
     clear hw q0 q1 q2 q3 q4 q5 F0 F1 F2 F3 F4 F5
     go_wp2_with fail
     go_roundw
     case rel=>exact ⟨k+1,hkn,by go_num,FIN⟩
     case measure=>simp [intOf];omega
   · obtain rfl:k=l.length:=Nat.le_antisymm hk hkn
     rw [List.take_length] at hm hM
     have hm2:=hm.symm.trans el.out
     have hM2:=hM.symm.trans eh.out
     subst hm2 hM2
     obtain ⟨z0,z1,z2,z3,z4,z5⟩:=Ad' g5
     have q0:=cR _ _ 0 _ _ _ gR
     have q1:=cR _ _ 1 _ _ _ gR
     have q2:=cR _ _ 2 _ _ _ gR
     have q3:=cR _ _ 3 _ _ _ gR
     have q4:=cR _ _ 4 _ _ _ gR
     have q5:=cR _ _ 5 _ _ _ gR
     have F0:=fR wr w.heap.size 0 _ _ gR
     have F1:=fR wr w.heap.size 1 _ _ gR
     have F2:=fR wr w.heap.size 2 _ _ gR
     have F3:=fR wr w.heap.size 3 _ _ gR
     have F4:=fR wr w.heap.size 4 _ _ gR
     have F5:=fR wr w.heap.size 5 _ _ gR
     simp only [lg,lz,ls] at q0 q1 q2 q3 q4 q5
     obtain ⟨ue,hw⟩:=eX (((((((wr.setCell ⟨w.heap.size,0,none⟩ (.bool s1)).setCell ⟨w.heap.size,1,none⟩ (.slice A1 n1 c1)).setCell ⟨w.heap.size,2,none⟩ (.slice A2 n2 c2)).setCell ⟨w.heap.size,3,none⟩ (.bool s2)).setCell ⟨w.heap.size,4,none⟩ (.slice A3 n3 c3)).setCell ⟨w.heap.size,5,none⟩ (.slice A4 n4 c4)))
     obtain ⟨E,-,LV,BL⟩:=AH gR hw
     have FE:=hid (LV.rbox hv)
     have FB:=hid (BL _ _ (nL _) hbw)
     replace E:=hid E
     replace hw:=hid hw
     clear hm hM el eh HS HQ hv hRs gR hbw g5 BL LV tm tM
     go_wp2_with fail
     rw [←hw.out]
     obtain ⟨r0,r1,r2,r3,r4,r5⟩:=Ad' E.out
     refine bP (v:=.agg #[.bool s1,.slice A1 n1 c1,.slice A2 n2 c2,.bool s2,.slice A3 n3 c3,.slice A4 n4 c4]) ?_ rfl ⟨_,rfl,FE.out,FB.out⟩
     simp [results,Tryz.results66,go_sem,r0,r1,r2,r3,r4,r5]
end Go.Proofs.YtlcimajjnfbidaaGreatDoor.Rf
