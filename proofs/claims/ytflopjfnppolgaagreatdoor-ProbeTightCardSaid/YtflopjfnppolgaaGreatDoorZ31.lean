/-
  Contracts of the functions that the law calls, for every input (Te BoxJ Tg Ts).
-/
import Derived.Test.YtflopjfnppolgaaGreatDoorZ00
import Derived.Test.YtflopjfnppolgaaGreatDoorZ30
import Derived.Test.YtflopjfnppolgaaGreatDoorZ19
import Derived.Test.YtflopjfnppolgaaGreatDoorZ18
import Derived.Test.YtflopjfnppolgaaGreatDoorZ11
import Derived.Test.YtflopjfnppolgaaGreatDoorZ08
import Derived.Test.YtflopjfnppolgaaGreatDoorZ09
set_option linter.all false
set_option maxRecDepth 100000
set_option maxHeartbeats 40000000
namespace Go.Proofs.YtflopjfnppolgaaGreatDoor.Rf
open Lib (hid)
open Go.RowKit
open Rx
open Vx (Aa' Ai Ai')
open List renaming getElem?_toArray → lg, getElem?_cons_zero → lz, getElem?_cons_succ → ls, setIfInBounds_toArray → lt, set_cons_zero → ly, set_cons_succ → lu
theorem By' {x y:Rat}:cmpQ x y≤0↔x≤y:=by
 unfold cmpQ
 rcases Decidable.em (x<y) with h | h
 · rw [if_pos h];exact ⟨fun _=>Rat.le_of_lt h,fun _=>by decide⟩
 · rw [if_neg h]
   rcases Decidable.em (x=y) with k | k
   · rw [if_pos k];exact ⟨fun _=>k ▸ Rat.le_refl,fun _=>by decide⟩
   · rw [if_neg k];exact ⟨fun a=>absurd a (by decide),fun a=>absurd (Rat.le_antisymm a (Rat.not_lt.1 h)) k⟩
theorem Fh' {x y:Rat}:cmpQ x y≥0↔y≤x:=by
 unfold cmpQ
 rcases Decidable.em (x<y) with h | h
 · rw [if_pos h];exact ⟨fun a=>absurd a (by decide),fun a=>absurd h (Rat.not_lt.2 a)⟩
 · rw [if_neg h]
   exact ⟨fun _=>Rat.not_lt.1 h,fun _=>by split <;> decide⟩
theorem HZ' {w:World} {vx vy:Value} {p q r:Rat} (hr:(if p≤q then p else q)=r) (hx:Ah w vx p) (hy:Ah w vy q) (sp:Aa' p≤16777216) (sq:Aa' q≤16777216) :
   Calls Tryz.prog 120 #[vx,vy] w (A2' w r):=by
 have tp:Aa' p≤268435456:=by omega
 have tq:Aa' q≤268435456:=by omega
 replace tp:=hid tp
 replace tq:=hid tq
 clear sp sq
 obtain ⟨c,ec⟩:=eY (cmpQ p q:Int)
 rcases Decidable.em (p≤q) with h | h
 · rw [if_pos h] at hr
   subst hr
   have hc:decide (c≤0)=true:=dT_ (by rw [←ec];exact By'.2 h)
   replace ec:=hid ec
   clear h
   obtain ⟨C1,j1,C2,j2,rfl,-,-⟩:=id hx.opened
   replace hx:=hid hx
   obtain ⟨C3,j3,C4,j4,rfl,-,-⟩:=id hy.opened
   replace hy:=hid hy
   obtain ⟨w1,hw1⟩:=eX ((((w.alloc (.cells #[.bool (decide (p.num<0)),.slice C1 (len p.num.natAbs) j1,.slice C2 (len p.den) j2] 43)).alloc (.cells #[.bool (decide (q.num<0)),.slice C3 (len q.num.natAbs) j3,.slice C4 (len q.den) j4] 43)).alloc (.cells #[.bool false,.slice none 0 0,.slice none 0 0] 43)))
   obtain ⟨b1,g1,g2,g3⟩:=AC hw1
   replace g1:=hid g1
   replace g2:=hid g2
   replace g3:=hid g3
   replace b1:=hid b1
   go_enter Tryz.func120,Tryz.ntmps120
   go_upto_region 1 with fail
   rw [←hw1]
   clear hw1
   have hg:w1.heap[w.heap.size]?=some (.cells #[.bool (decide (p.num<0)),.slice C1 (len p.num.natAbs) j1,.slice C2 (len p.den) j2] 43 (0,0)):=((Below.refl _ w1).block _ (gE.1 g1.out).1).trans g1.out
   obtain ⟨z_x_0,z_x_1,z_x_2⟩:=Ad' hg
   clear hg
   have hg:w1.heap[w.heap.size+1]?=some (.cells #[.bool (decide (q.num<0)),.slice C3 (len q.num.natAbs) j3,.slice C4 (len q.den) j4] 43 (0,0)):=((Below.refl _ w1).block _ (gE.1 g2.out).1).trans g2.out
   obtain ⟨z_y_0,z_y_1,z_y_2⟩:=Ad' hg
   clear hg
   have HX:=hid (A4' ec.out (hx.out.keep b1.out) (hy.out.keep b1.out) tp.out tq.out)
   go_wp2_with fail
   refine (HX.out).mono ?_
   rintro e w2 ⟨rfl,b2⟩
   replace b2:=hid b2
   clear HX
   clear z_x_0 z_x_1 z_x_2 z_y_0 z_y_1 z_y_2
   have hg:w2.heap[w.heap.size]?=some (.cells #[.bool (decide (p.num<0)),.slice C1 (len p.num.natAbs) j1,.slice C2 (len p.den) j2] 43 (0,0)):=(b2.out.block _ (gE.1 g1.out).1).trans g1.out
   obtain ⟨z_x_0,z_x_1,z_x_2⟩:=Ad' hg
   clear hg
   have DR:=(Ab' g3.out b2.out)
   have q0:w2.cell? ⟨w.heap.size+2,0,none⟩=some (.bool false):=cR _ _ _ _ _ _ DR
   have F0:w2.frozen? ⟨w.heap.size+2,0,none⟩=false:=fR w2 (w.heap.size+2) 0 _ _ DR
   have q1:w2.cell? ⟨w.heap.size+2,1,none⟩=some (.slice none 0 0):=cR _ _ _ _ _ _ DR
   have F1:w2.frozen? ⟨w.heap.size+2,1,none⟩=false:=fR w2 (w.heap.size+2) 1 _ _ DR
   have q2:w2.cell? ⟨w.heap.size+2,2,none⟩=some (.slice none 0 0):=cR _ _ _ _ _ _ DR
   have F2:w2.frozen? ⟨w.heap.size+2,2,none⟩=false:=fR w2 (w.heap.size+2) 2 _ _ DR
   have FB:=(bS b1.out b2.out)
   have FV:=(hx.out.keep (bS b1.out b2.out))
   obtain ⟨ue,hw⟩:=eX ((((w2.setCell ⟨w.heap.size+2,0,none⟩ (.bool (decide (p.num<0)))).setCell ⟨w.heap.size+2,1,none⟩ (.slice C1 (len p.num.natAbs) j1)).setCell ⟨w.heap.size+2,2,none⟩ (.slice C2 (len p.den) j2)))
   obtain ⟨E_ue,-,LV,BL⟩:=AE DR hw
   have FE:=hid (LV.rat FV)
   replace FB:=hid (BL _ _ (by omega) FB)
   replace E_ue:=hid E_ue
   replace hw:=hid hw
   clear DR FV LV BL
   go_wp2_with fail
   rw [←hw.out]
   obtain ⟨r0,r1,r2⟩:=Ad' E_ue.out
   refine bP (v:=.agg #[.bool (decide (p.num<0)),.slice C1 (len p.num.natAbs) j1,.slice C2 (len p.den) j2]) ?_ rfl ⟨_,rfl,FE.out,FB.out⟩
   simp [results,Tryz.results120,go_sem,r0,r1,r2]
 · rw [if_neg h] at hr
   subst hr
   have hc:decide (c≤0)=false:=dF_ (by rw [←ec];exact fun k=>h (By'.1 k))
   replace ec:=hid ec
   clear h
   obtain ⟨C5,j5,C6,j6,rfl,-,-⟩:=id hx.opened
   replace hx:=hid hx
   obtain ⟨C7,j7,C8,j8,rfl,-,-⟩:=id hy.opened
   replace hy:=hid hy
   obtain ⟨w1,hw1⟩:=eX ((((w.alloc (.cells #[.bool (decide (p.num<0)),.slice C5 (len p.num.natAbs) j5,.slice C6 (len p.den) j6] 43)).alloc (.cells #[.bool (decide (q.num<0)),.slice C7 (len q.num.natAbs) j7,.slice C8 (len q.den) j8] 43)).alloc (.cells #[.bool false,.slice none 0 0,.slice none 0 0] 43)))
   obtain ⟨b1,g1,g2,g3⟩:=AC hw1
   replace g1:=hid g1
   replace g2:=hid g2
   replace g3:=hid g3
   replace b1:=hid b1
   go_enter Tryz.func120,Tryz.ntmps120
   go_upto_region 1 with fail
   rw [←hw1]
   clear hw1
   have hg:w1.heap[w.heap.size]?=some (.cells #[.bool (decide (p.num<0)),.slice C5 (len p.num.natAbs) j5,.slice C6 (len p.den) j6] 43 (0,0)):=((Below.refl _ w1).block _ (gE.1 g1.out).1).trans g1.out
   obtain ⟨z_x_0,z_x_1,z_x_2⟩:=Ad' hg
   clear hg
   have hg:w1.heap[w.heap.size+1]?=some (.cells #[.bool (decide (q.num<0)),.slice C7 (len q.num.natAbs) j7,.slice C8 (len q.den) j8] 43 (0,0)):=((Below.refl _ w1).block _ (gE.1 g2.out).1).trans g2.out
   obtain ⟨z_y_0,z_y_1,z_y_2⟩:=Ad' hg
   clear hg
   have HX:=hid (A4' ec.out (hx.out.keep b1.out) (hy.out.keep b1.out) tp.out tq.out)
   go_wp2_with fail
   refine (HX.out).mono ?_
   rintro e w2 ⟨rfl,b2⟩
   replace b2:=hid b2
   clear HX
   clear z_x_0 z_x_1 z_x_2 z_y_0 z_y_1 z_y_2
   have hg:w2.heap[w.heap.size+1]?=some (.cells #[.bool (decide (q.num<0)),.slice C7 (len q.num.natAbs) j7,.slice C8 (len q.den) j8] 43 (0,0)):=(b2.out.block _ (gE.1 g2.out).1).trans g2.out
   obtain ⟨z_y_0,z_y_1,z_y_2⟩:=Ad' hg
   clear hg
   have DR:=(Ab' g3.out b2.out)
   have q0:w2.cell? ⟨w.heap.size+2,0,none⟩=some (.bool false):=cR _ _ _ _ _ _ DR
   have F0:w2.frozen? ⟨w.heap.size+2,0,none⟩=false:=fR w2 (w.heap.size+2) 0 _ _ DR
   have q1:w2.cell? ⟨w.heap.size+2,1,none⟩=some (.slice none 0 0):=cR _ _ _ _ _ _ DR
   have F1:w2.frozen? ⟨w.heap.size+2,1,none⟩=false:=fR w2 (w.heap.size+2) 1 _ _ DR
   have q2:w2.cell? ⟨w.heap.size+2,2,none⟩=some (.slice none 0 0):=cR _ _ _ _ _ _ DR
   have F2:w2.frozen? ⟨w.heap.size+2,2,none⟩=false:=fR w2 (w.heap.size+2) 2 _ _ DR
   have FB:=(bS b1.out b2.out)
   have FV:=(hy.out.keep (bS b1.out b2.out))
   obtain ⟨ue,hw⟩:=eX ((((w2.setCell ⟨w.heap.size+2,0,none⟩ (.bool (decide (q.num<0)))).setCell ⟨w.heap.size+2,1,none⟩ (.slice C7 (len q.num.natAbs) j7)).setCell ⟨w.heap.size+2,2,none⟩ (.slice C8 (len q.den) j8)))
   obtain ⟨E_ue,-,LV,BL⟩:=AE DR hw
   have FE:=hid (LV.rat FV)
   replace FB:=hid (BL _ _ (by omega) FB)
   replace E_ue:=hid E_ue
   replace hw:=hid hw
   clear DR FV LV BL
   go_wp2_with fail
   rw [←hw.out]
   obtain ⟨r0,r1,r2⟩:=Ad' E_ue.out
   refine bP (v:=.agg #[.bool (decide (q.num<0)),.slice C7 (len q.num.natAbs) j7,.slice C8 (len q.den) j8]) ?_ rfl ⟨_,rfl,FE.out,FB.out⟩
   simp [results,Tryz.results120,go_sem,r0,r1,r2]
theorem H1' {w:World} {vx vy:Value} {p q r:Rat} (hr:(if q≤p then p else q)=r) (hx:Ah w vx p) (hy:Ah w vy q) (sp:Aa' p≤16777216) (sq:Aa' q≤16777216) :
   Calls Tryz.prog 121 #[vx,vy] w (A2' w r):=by
 have tp:Aa' p≤268435456:=by omega
 have tq:Aa' q≤268435456:=by omega
 replace tp:=hid tp
 replace tq:=hid tq
 clear sp sq
 obtain ⟨c,ec⟩:=eY (cmpQ p q:Int)
 rcases Decidable.em (q≤p) with h | h
 · rw [if_pos h] at hr
   subst hr
   have hc:decide (c≥0)=true:=dT_ (by rw [←ec];exact Fh'.2 h)
   replace ec:=hid ec
   clear h
   obtain ⟨C1,j1,C2,j2,rfl,-,-⟩:=id hx.opened
   replace hx:=hid hx
   obtain ⟨C3,j3,C4,j4,rfl,-,-⟩:=id hy.opened
   replace hy:=hid hy
   obtain ⟨w1,hw1⟩:=eX ((((w.alloc (.cells #[.bool (decide (p.num<0)),.slice C1 (len p.num.natAbs) j1,.slice C2 (len p.den) j2] 43)).alloc (.cells #[.bool (decide (q.num<0)),.slice C3 (len q.num.natAbs) j3,.slice C4 (len q.den) j4] 43)).alloc (.cells #[.bool false,.slice none 0 0,.slice none 0 0] 43)))
   obtain ⟨b1,g1,g2,g3⟩:=AC hw1
   replace g1:=hid g1
   replace g2:=hid g2
   replace g3:=hid g3
   replace b1:=hid b1
   go_enter Tryz.func121,Tryz.ntmps121
   go_upto_region 1 with fail
   rw [←hw1]
   clear hw1
   have hg:w1.heap[w.heap.size]?=some (.cells #[.bool (decide (p.num<0)),.slice C1 (len p.num.natAbs) j1,.slice C2 (len p.den) j2] 43 (0,0)):=((Below.refl _ w1).block _ (gE.1 g1.out).1).trans g1.out
   obtain ⟨z_x_0,z_x_1,z_x_2⟩:=Ad' hg
   clear hg
   have hg:w1.heap[w.heap.size+1]?=some (.cells #[.bool (decide (q.num<0)),.slice C3 (len q.num.natAbs) j3,.slice C4 (len q.den) j4] 43 (0,0)):=((Below.refl _ w1).block _ (gE.1 g2.out).1).trans g2.out
   obtain ⟨z_y_0,z_y_1,z_y_2⟩:=Ad' hg
   clear hg
   have HX:=hid (A4' ec.out (hx.out.keep b1.out) (hy.out.keep b1.out) tp.out tq.out)
   go_wp2_with fail
   refine (HX.out).mono ?_
   rintro e w2 ⟨rfl,b2⟩
   replace b2:=hid b2
   clear HX
   clear z_x_0 z_x_1 z_x_2 z_y_0 z_y_1 z_y_2
   have hg:w2.heap[w.heap.size]?=some (.cells #[.bool (decide (p.num<0)),.slice C1 (len p.num.natAbs) j1,.slice C2 (len p.den) j2] 43 (0,0)):=(b2.out.block _ (gE.1 g1.out).1).trans g1.out
   obtain ⟨z_x_0,z_x_1,z_x_2⟩:=Ad' hg
   clear hg
   have DR:=(Ab' g3.out b2.out)
   have q0:w2.cell? ⟨w.heap.size+2,0,none⟩=some (.bool false):=cR _ _ _ _ _ _ DR
   have F0:w2.frozen? ⟨w.heap.size+2,0,none⟩=false:=fR w2 (w.heap.size+2) 0 _ _ DR
   have q1:w2.cell? ⟨w.heap.size+2,1,none⟩=some (.slice none 0 0):=cR _ _ _ _ _ _ DR
   have F1:w2.frozen? ⟨w.heap.size+2,1,none⟩=false:=fR w2 (w.heap.size+2) 1 _ _ DR
   have q2:w2.cell? ⟨w.heap.size+2,2,none⟩=some (.slice none 0 0):=cR _ _ _ _ _ _ DR
   have F2:w2.frozen? ⟨w.heap.size+2,2,none⟩=false:=fR w2 (w.heap.size+2) 2 _ _ DR
   have FB:=(bS b1.out b2.out)
   have FV:=(hx.out.keep (bS b1.out b2.out))
   obtain ⟨ue,hw⟩:=eX ((((w2.setCell ⟨w.heap.size+2,0,none⟩ (.bool (decide (p.num<0)))).setCell ⟨w.heap.size+2,1,none⟩ (.slice C1 (len p.num.natAbs) j1)).setCell ⟨w.heap.size+2,2,none⟩ (.slice C2 (len p.den) j2)))
   obtain ⟨E_ue,-,LV,BL⟩:=AE DR hw
   have FE:=hid (LV.rat FV)
   replace FB:=hid (BL _ _ (by omega) FB)
   replace E_ue:=hid E_ue
   replace hw:=hid hw
   clear DR FV LV BL
   go_wp2_with fail
   rw [←hw.out]
   obtain ⟨r0,r1,r2⟩:=Ad' E_ue.out
   refine bP (v:=.agg #[.bool (decide (p.num<0)),.slice C1 (len p.num.natAbs) j1,.slice C2 (len p.den) j2]) ?_ rfl ⟨_,rfl,FE.out,FB.out⟩
   simp [results,Tryz.results121,go_sem,r0,r1,r2]
 · rw [if_neg h] at hr
   subst hr
   have hc:decide (c≥0)=false:=dF_ (by rw [←ec];exact fun k=>h (Fh'.1 k))
   replace ec:=hid ec
   clear h
   obtain ⟨C5,j5,C6,j6,rfl,-,-⟩:=id hx.opened
   replace hx:=hid hx
   obtain ⟨C7,j7,C8,j8,rfl,-,-⟩:=id hy.opened
   replace hy:=hid hy
   obtain ⟨w1,hw1⟩:=eX ((((w.alloc (.cells #[.bool (decide (p.num<0)),.slice C5 (len p.num.natAbs) j5,.slice C6 (len p.den) j6] 43)).alloc (.cells #[.bool (decide (q.num<0)),.slice C7 (len q.num.natAbs) j7,.slice C8 (len q.den) j8] 43)).alloc (.cells #[.bool false,.slice none 0 0,.slice none 0 0] 43)))
   obtain ⟨b1,g1,g2,g3⟩:=AC hw1
   replace g1:=hid g1
   replace g2:=hid g2
   replace g3:=hid g3
   replace b1:=hid b1
   go_enter Tryz.func121,Tryz.ntmps121
   go_upto_region 1 with fail
   rw [←hw1]
   clear hw1
   have hg:w1.heap[w.heap.size]?=some (.cells #[.bool (decide (p.num<0)),.slice C5 (len p.num.natAbs) j5,.slice C6 (len p.den) j6] 43 (0,0)):=((Below.refl _ w1).block _ (gE.1 g1.out).1).trans g1.out
   obtain ⟨z_x_0,z_x_1,z_x_2⟩:=Ad' hg
   clear hg
   have hg:w1.heap[w.heap.size+1]?=some (.cells #[.bool (decide (q.num<0)),.slice C7 (len q.num.natAbs) j7,.slice C8 (len q.den) j8] 43 (0,0)):=((Below.refl _ w1).block _ (gE.1 g2.out).1).trans g2.out
   obtain ⟨z_y_0,z_y_1,z_y_2⟩:=Ad' hg
   clear hg
   have HX:=hid (A4' ec.out (hx.out.keep b1.out) (hy.out.keep b1.out) tp.out tq.out)
   go_wp2_with fail
   refine (HX.out).mono ?_
   rintro e w2 ⟨rfl,b2⟩
   replace b2:=hid b2
   clear HX
   clear z_x_0 z_x_1 z_x_2 z_y_0 z_y_1 z_y_2
   have hg:w2.heap[w.heap.size+1]?=some (.cells #[.bool (decide (q.num<0)),.slice C7 (len q.num.natAbs) j7,.slice C8 (len q.den) j8] 43 (0,0)):=(b2.out.block _ (gE.1 g2.out).1).trans g2.out
   obtain ⟨z_y_0,z_y_1,z_y_2⟩:=Ad' hg
   clear hg
   have DR:=(Ab' g3.out b2.out)
   have q0:w2.cell? ⟨w.heap.size+2,0,none⟩=some (.bool false):=cR _ _ _ _ _ _ DR
   have F0:w2.frozen? ⟨w.heap.size+2,0,none⟩=false:=fR w2 (w.heap.size+2) 0 _ _ DR
   have q1:w2.cell? ⟨w.heap.size+2,1,none⟩=some (.slice none 0 0):=cR _ _ _ _ _ _ DR
   have F1:w2.frozen? ⟨w.heap.size+2,1,none⟩=false:=fR w2 (w.heap.size+2) 1 _ _ DR
   have q2:w2.cell? ⟨w.heap.size+2,2,none⟩=some (.slice none 0 0):=cR _ _ _ _ _ _ DR
   have F2:w2.frozen? ⟨w.heap.size+2,2,none⟩=false:=fR w2 (w.heap.size+2) 2 _ _ DR
   have FB:=(bS b1.out b2.out)
   have FV:=(hy.out.keep (bS b1.out b2.out))
   obtain ⟨ue,hw⟩:=eX ((((w2.setCell ⟨w.heap.size+2,0,none⟩ (.bool (decide (q.num<0)))).setCell ⟨w.heap.size+2,1,none⟩ (.slice C7 (len q.num.natAbs) j7)).setCell ⟨w.heap.size+2,2,none⟩ (.slice C8 (len q.den) j8)))
   obtain ⟨E_ue,-,LV,BL⟩:=AE DR hw
   have FE:=hid (LV.rat FV)
   replace FB:=hid (BL _ _ (by omega) FB)
   replace E_ue:=hid E_ue
   replace hw:=hid hw
   clear DR FV LV BL
   go_wp2_with fail
   rw [←hw.out]
   obtain ⟨r0,r1,r2⟩:=Ad' E_ue.out
   refine bP (v:=.agg #[.bool (decide (q.num<0)),.slice C7 (len q.num.natAbs) j7,.slice C8 (len q.den) j8]) ?_ rfl ⟨_,rfl,FE.out,FB.out⟩
   simp [results,Tryz.results121,go_sem,r0,r1,r2]
theorem C0' {w:World} {vx:Value} {p:Rat} (hx:Ah w vx p) :
   Calls Tryz.prog 48 #[vx] w (B3' w p p):=by
 obtain ⟨C1,j1,C2,j2,rfl,-,-⟩:=id hx.opened
 replace hx:=hid hx
 obtain ⟨w1,hw1⟩:=eX (((w.alloc (.cells #[.bool (decide (p.num<0)),.slice C1 (len p.num.natAbs) j1,.slice C2 (len p.den) j2] 43)).alloc (.cells #[.bool false,.slice none 0 0,.slice none 0 0,.bool false,.slice none 0 0,.slice none 0 0] 45)))
 obtain ⟨b1,g1,g2⟩:=AL' hw1
 replace g1:=hid g1
 replace g2:=hid g2
 replace b1:=hid b1
 go_enter Tryz.func48,Tryz.ntmps48
 go_upto_region 1 with fail
 rw [←hw1]
 clear hw1
 have hg:w1.heap[w.heap.size]?=some (.cells #[.bool (decide (p.num<0)),.slice C1 (len p.num.natAbs) j1,.slice C2 (len p.den) j2] 43 (0,0)):=((Below.refl _ w1).block _ (gE.1 g1.out).1).trans g1.out
 obtain ⟨z_x_0,z_x_1,z_x_2⟩:=Ad' hg
 clear hg
 have DR:=(Ab' g2.out (Below.refl _ w1))
 have q0:w1.cell? ⟨w.heap.size+1,0,none⟩=some (.bool false):=cR _ _ _ _ _ _ DR
 have F0:w1.frozen? ⟨w.heap.size+1,0,none⟩=false:=fR w1 (w.heap.size+1) 0 _ _ DR
 have q1:w1.cell? ⟨w.heap.size+1,1,none⟩=some (.slice none 0 0):=cR _ _ _ _ _ _ DR
 have F1:w1.frozen? ⟨w.heap.size+1,1,none⟩=false:=fR w1 (w.heap.size+1) 1 _ _ DR
 have q2:w1.cell? ⟨w.heap.size+1,2,none⟩=some (.slice none 0 0):=cR _ _ _ _ _ _ DR
 have F2:w1.frozen? ⟨w.heap.size+1,2,none⟩=false:=fR w1 (w.heap.size+1) 2 _ _ DR
 have q3:w1.cell? ⟨w.heap.size+1,3,none⟩=some (.bool false):=cR _ _ _ _ _ _ DR
 have F3:w1.frozen? ⟨w.heap.size+1,3,none⟩=false:=fR w1 (w.heap.size+1) 3 _ _ DR
 have q4:w1.cell? ⟨w.heap.size+1,4,none⟩=some (.slice none 0 0):=cR _ _ _ _ _ _ DR
 have F4:w1.frozen? ⟨w.heap.size+1,4,none⟩=false:=fR w1 (w.heap.size+1) 4 _ _ DR
 have q5:w1.cell? ⟨w.heap.size+1,5,none⟩=some (.slice none 0 0):=cR _ _ _ _ _ _ DR
 have F5:w1.frozen? ⟨w.heap.size+1,5,none⟩=false:=fR w1 (w.heap.size+1) 5 _ _ DR
 have FB:=b1.out
 have FV:=(Ah.pair (hx.out.keep b1.out) (hx.out.keep b1.out))
 obtain ⟨ue,hw⟩:=eX (((((((w1.setCell ⟨w.heap.size+1,0,none⟩ (.bool (decide (p.num<0)))).setCell ⟨w.heap.size+1,1,none⟩ (.slice C1 (len p.num.natAbs) j1)).setCell ⟨w.heap.size+1,2,none⟩ (.slice C2 (len p.den) j2)).setCell ⟨w.heap.size+1,3,none⟩ (.bool (decide (p.num<0)))).setCell ⟨w.heap.size+1,4,none⟩ (.slice C1 (len p.num.natAbs) j1)).setCell ⟨w.heap.size+1,5,none⟩ (.slice C2 (len p.den) j2)))
 obtain ⟨E_ue,-,LV,BL⟩:=AF DR hw
 have FE:=hid (LV.rbox FV)
 replace FB:=hid (BL _ _ (by omega) FB)
 replace E_ue:=hid E_ue
 replace hw:=hid hw
 clear DR FV LV BL
 go_wp2_with fail
 rw [←hw.out]
 obtain ⟨r0,r1,r2,r3,r4,r5⟩:=Aj E_ue.out
 refine bP (v:=.agg #[.bool (decide (p.num<0)),.slice C1 (len p.num.natAbs) j1,.slice C2 (len p.den) j2,.bool (decide (p.num<0)),.slice C1 (len p.num.natAbs) j1,.slice C2 (len p.den) j2]) ?_ rfl ⟨_,rfl,FE.out,FB.out⟩
 simp [results,Tryz.results48,go_sem,r0,r1,r2,r3,r4,r5]
theorem FA {w:World} {vx vy:Value} {a b c d l h:Rat} (el:a+c=l) (eh:b+d=h) (hx:Ay' w vx a b) (hy:Ay' w vy c d) (sa:Aa' a≤16777216) (sb:Aa' b≤16777216) (sc:Aa' c≤16777216) (sd:Aa' d≤16777216) :
   Calls Tryz.prog 86 #[vx,vy] w (B3' w l h):=by
 have ta:Aa' a≤268435456:=by omega
 have tb:Aa' b≤268435456:=by omega
 have tc:Aa' c≤268435456:=by omega
 have td:Aa' d≤268435456:=by omega
 replace ta:=hid ta
 replace tb:=hid tb
 replace tc:=hid tc
 replace td:=hid td
 clear sa sb sc sd
 replace el:=hid el
 replace eh:=hid eh
 obtain ⟨C1,j1,C2,j2,C3,j3,C4,j4,rfl,hxl,hxh⟩:=id hx.opened
 replace hx:=hid hx
 replace hxl:=hid hxl
 replace hxh:=hid hxh
 obtain ⟨C5,j5,C6,j6,C7,j7,C8,j8,rfl,hyl,hyh⟩:=id hy.opened
 replace hy:=hid hy
 replace hyl:=hid hyl
 replace hyh:=hid hyh
 obtain ⟨w1,hw1⟩:=eX ((((w.alloc (.cells #[.bool (decide (a.num<0)),.slice C1 (len a.num.natAbs) j1,.slice C2 (len a.den) j2,.bool (decide (b.num<0)),.slice C3 (len b.num.natAbs) j3,.slice C4 (len b.den) j4] 45)).alloc (.cells #[.bool (decide (c.num<0)),.slice C5 (len c.num.natAbs) j5,.slice C6 (len c.den) j6,.bool (decide (d.num<0)),.slice C7 (len d.num.natAbs) j7,.slice C8 (len d.den) j8] 45)).alloc (.cells #[.bool false,.slice none 0 0,.slice none 0 0,.bool false,.slice none 0 0,.slice none 0 0] 45)))
 obtain ⟨b1,g1,g2,g3⟩:=AC hw1
 replace g1:=hid g1
 replace g2:=hid g2
 replace g3:=hid g3
 replace b1:=hid b1
 go_enter Tryz.func86,Tryz.ntmps86
 go_upto_region 1 with fail
 rw [←hw1]
 clear hw1
 go_wp2_with fail
 have HSZa:Hid ((w.heap.size+2)≤w1.heap.size):=hid (by have:=Al' (Ab' g3.out (Below.refl _ w1));omega)
 have hg:w1.heap[w.heap.size]?=some (.cells #[.bool (decide (a.num<0)),.slice C1 (len a.num.natAbs) j1,.slice C2 (len a.den) j2,.bool (decide (b.num<0)),.slice C3 (len b.num.natAbs) j3,.slice C4 (len b.den) j4] 45 (0,0)):=((Below.refl _ w1).block _ (gE.1 g1.out).1).trans g1.out
 obtain ⟨z_x_0,z_x_1,z_x_2,z_x_3,z_x_4,z_x_5⟩:=Aj hg
 clear hg
 have hlta_x:w.heap.size<(w.heap.size+2):=by omega
 have hg:w1.heap[w.heap.size+1]?=some (.cells #[.bool (decide (c.num<0)),.slice C5 (len c.num.natAbs) j5,.slice C6 (len c.den) j6,.bool (decide (d.num<0)),.slice C7 (len d.num.natAbs) j7,.slice C8 (len d.den) j8] 45 (0,0)):=((Below.refl _ w1).block _ (gE.1 g2.out).1).trans g2.out
 obtain ⟨z_y_0,z_y_1,z_y_2,z_y_3,z_y_4,z_y_5⟩:=Aj hg
 clear hg
 have hlta_y:w.heap.size+1<(w.heap.size+2):=by omega
 have H0:=Ah'.start w1 (w.heap.size+2)
 have H0':=H0
 unfold Ah' at H0'
 refine wp_region_held_drew (S:=(fun w'=>(∀ b o,b<(w.heap.size+2)→w'.cell? ⟨b,o,none⟩=w1.cell? ⟨b,o,none⟩)∧Below ((w.heap.size+2)) w1 w'∧An' w1 w')) (by kernel_rfl) ?_ (fun hHeld=>?_)
 · (try dsimp only)
   exact H0'
 obtain ⟨w2,hw2⟩:=eX w1.drew
 have b2:Hid (Below w1.heap.size w1 w2):=by rw [hw2];exact ⟨rfl,rfl,rfl,nL _,fun _ _=>rfl⟩
 rw [←hw2] at hHeld H0 ⊢
 clear hw2 H0'
 refine tk (i:=0) (h:=?_)
 try simp only [Act.put,lt,ly,lu]
 refine tk (i:=1) (h:=?_)
 try simp only [Act.put,lt,ly,lu]
 refine tk (i:=2) (h:=?_)
 try simp only [Act.put,lt,ly,lu]
 refine tk (i:=3) (h:=?_)
 try simp only [Act.put,lt,ly,lu]
 refine tk (i:=5) (h:=?_)
 try simp only [Act.put,lt,ly,lu]
 refine tk (i:=6) (h:=?_)
 try simp only [Act.put,lt,ly,lu]
 refine tk (i:=7) (h:=?_)
 try simp only [Act.put,lt,ly,lu]
 refine tk (i:=8) (h:=?_)
 try simp only [Act.put,lt,ly,lu]
 refine rdz (i:=4) (h:=fun K hK=>?_);go_simp;go_at_call 88
 refine (DD' el.out (hxl.out.keep (bS b1.out b2.out)) (hyl.out.keep (bS b1.out b2.out)) ta.out tc.out).mono ?_
 rintro e w3 ⟨v3,rfl,hv3,b3⟩
 obtain ⟨C9,j9,C10,j10,rfl,-,-⟩:=id hv3.opened
 replace hv3:=hid hv3
 replace b3:=hid b3
 have hk3:=Av' H0 HSZa b3.out;clear hHeld H0
 refine hK.out _ _ (by (try dsimp only);with_reducible exact hun hk3) (fun hHeld=>?_)
 clear hK K;try simp only [Act.put,lt,ly,lu]
 refine rdz (i:=9) (h:=fun K hK=>?_);go_simp;go_at_call 88
 refine (DD' eh.out (hxh.out.keep (bS (bS b1.out b2.out) b3.out)) (hyh.out.keep (bS (bS b1.out b2.out) b3.out)) tb.out td.out).mono ?_
 rintro e w4 ⟨v4,rfl,hv4,b4⟩
 obtain ⟨C11,j11,C12,j12,rfl,-,-⟩:=id hv4.opened
 replace hv4:=hid hv4
 replace b4:=hid b4
 have hk4:=Av' hk3 HSZa b4.out;clear hHeld hk3
 refine hK.out _ _ (by (try dsimp only);with_reducible exact hun hk4) (fun hHeld=>?_)
 clear hK K;try simp only [Act.put,lt,ly,lu]
 refine tk (i:=10) (h:=?_)
 try simp only [Act.put,lt,ly,lu]
 have Dq12:=(Ab' g3.out (bS (bS b2.out b3.out) b4.out))
 refine rdz (i:=11) (h:=fun K hK=>?_)
 have q0:w4.cell? ⟨w.heap.size+2,0,none⟩=some (.bool false):=cR _ _ _ _ _ _ Dq12
 have F0:w4.frozen? ⟨w.heap.size+2,0,none⟩=false:=fR w4 (w.heap.size+2) 0 _ _ Dq12
 have q1:w4.cell? ⟨w.heap.size+2,1,none⟩=some (.slice none 0 0):=cR _ _ _ _ _ _ Dq12
 have F1:w4.frozen? ⟨w.heap.size+2,1,none⟩=false:=fR w4 (w.heap.size+2) 1 _ _ Dq12
 have q2:w4.cell? ⟨w.heap.size+2,2,none⟩=some (.slice none 0 0):=cR _ _ _ _ _ _ Dq12
 have F2:w4.frozen? ⟨w.heap.size+2,2,none⟩=false:=fR w4 (w.heap.size+2) 2 _ _ Dq12
 have q3:w4.cell? ⟨w.heap.size+2,3,none⟩=some (.bool false):=cR _ _ _ _ _ _ Dq12
 have F3:w4.frozen? ⟨w.heap.size+2,3,none⟩=false:=fR w4 (w.heap.size+2) 3 _ _ Dq12
 have q4:w4.cell? ⟨w.heap.size+2,4,none⟩=some (.slice none 0 0):=cR _ _ _ _ _ _ Dq12
 have F4:w4.frozen? ⟨w.heap.size+2,4,none⟩=false:=fR w4 (w.heap.size+2) 4 _ _ Dq12
 have q5:w4.cell? ⟨w.heap.size+2,5,none⟩=some (.slice none 0 0):=cR _ _ _ _ _ _ Dq12
 have F5:w4.frozen? ⟨w.heap.size+2,5,none⟩=false:=fR w4 (w.heap.size+2) 5 _ _ Dq12
 replace Dq12:=hid Dq12
 go_simp
 clear q0 F0 q1 F1 q2 F2 q3 F3 q4 F4 q5 F5
 have FB:=hid (bS (bS (bS b1.out b2.out) b3.out) b4.out)
 have FV:=hid (Ah.pair (hv3.out.keep b4.out) hv4.out)
 obtain ⟨ue,hw⟩:=eX (((((((w4.setCell ⟨w.heap.size+2,0,none⟩ (.bool (decide (l.num<0)))).setCell ⟨w.heap.size+2,1,none⟩ (.slice C9 (len l.num.natAbs) j9)).setCell ⟨w.heap.size+2,2,none⟩ (.slice C10 (len l.den) j10)).setCell ⟨w.heap.size+2,3,none⟩ (.bool (decide (h.num<0)))).setCell ⟨w.heap.size+2,4,none⟩ (.slice C11 (len h.num.natAbs) j11)).setCell ⟨w.heap.size+2,5,none⟩ (.slice C12 (len h.den) j12)))
 obtain ⟨E_ue,OT,LV,BL⟩:=AF Dq12.out hw
 rw [←hw]
 clear hw
 replace E_ue:=hid E_ue
 have FE:=hid (LV.rbox FV.out)
 replace FB:=hid (BL _ _ (by omega) FB.out)
 have HKE:=hk4
 refine hK.out _ _ ?_ (fun hHeld2=>?_)
 · (try dsimp only)
   exact ⟨fun b o hb=>(Au (BL (w.heap.size+2) _ (by omega) hk4.2.1)) b o hb,BL (w.heap.size+2) _ (by omega) hk4.2.1,A7' hk4.2.2 LV⟩
 clear hK K hHeld OT LV BL HKE
 try simp only [Act.put,lt,ly,lu]
 have hHeld:=hHeld2
 clear hHeld2
 refine wpAnyH_done (by kernel_rfl) ?_ _
 clear hHeld
 obtain ⟨r0,r1,r2,r3,r4,r5⟩:=Aj E_ue.out
 go_wp2_with fail
 refine bP (v:=.agg #[.bool (decide (l.num<0)),.slice C9 (len l.num.natAbs) j9,.slice C10 (len l.den) j10,.bool (decide (h.num<0)),.slice C11 (len h.num.natAbs) j11,.slice C12 (len h.den) j12]) ?_ rfl ⟨_,rfl,FE.out,FB.out⟩
 simp [results,Tryz.results86,go_sem,r0,r1,r2,r3,r4,r5]
theorem FA' {w:World} {vx:Value} {a b l h:Rat} (el : -b=l) (eh : -a=h) (hx:Ay' w vx a b) :
   Calls Tryz.prog 87 #[vx] w (B3' w l h):=by
 replace el:=hid el
 replace eh:=hid eh
 obtain ⟨C1,j1,C2,j2,C3,j3,C4,j4,rfl,hxl,hxh⟩:=id hx.opened
 replace hx:=hid hx
 replace hxl:=hid hxl
 replace hxh:=hid hxh
 obtain ⟨w1,hw1⟩:=eX (((w.alloc (.cells #[.bool (decide (a.num<0)),.slice C1 (len a.num.natAbs) j1,.slice C2 (len a.den) j2,.bool (decide (b.num<0)),.slice C3 (len b.num.natAbs) j3,.slice C4 (len b.den) j4] 45)).alloc (.cells #[.bool false,.slice none 0 0,.slice none 0 0,.bool false,.slice none 0 0,.slice none 0 0] 45)))
 obtain ⟨b1,g1,g2⟩:=AL' hw1
 replace g1:=hid g1
 replace g2:=hid g2
 replace b1:=hid b1
 go_enter Tryz.func87,Tryz.ntmps87
 go_upto_region 1 with fail
 rw [←hw1]
 clear hw1
 go_wp2_with fail
 have HSZa:Hid ((w.heap.size+1)≤w1.heap.size):=hid (by have:=Al' (Ab' g2.out (Below.refl _ w1));omega)
 have hg:w1.heap[w.heap.size]?=some (.cells #[.bool (decide (a.num<0)),.slice C1 (len a.num.natAbs) j1,.slice C2 (len a.den) j2,.bool (decide (b.num<0)),.slice C3 (len b.num.natAbs) j3,.slice C4 (len b.den) j4] 45 (0,0)):=((Below.refl _ w1).block _ (gE.1 g1.out).1).trans g1.out
 obtain ⟨z_x_0,z_x_1,z_x_2,z_x_3,z_x_4,z_x_5⟩:=Aj hg
 clear hg
 have hlta_x:w.heap.size<(w.heap.size+1):=by omega
 have H0:=Ah'.start w1 (w.heap.size+1)
 have H0':=H0
 unfold Ah' at H0'
 refine wp_region_held_drew (S:=(fun w'=>(∀ b o,b<(w.heap.size+1)→w'.cell? ⟨b,o,none⟩=w1.cell? ⟨b,o,none⟩)∧Below ((w.heap.size+1)) w1 w'∧An' w1 w')) (by kernel_rfl) ?_ (fun hHeld=>?_)
 · (try dsimp only)
   exact H0'
 obtain ⟨w2,hw2⟩:=eX w1.drew
 have b2:Hid (Below w1.heap.size w1 w2):=by rw [hw2];exact ⟨rfl,rfl,rfl,nL _,fun _ _=>rfl⟩
 rw [←hw2] at hHeld H0 ⊢
 clear hw2 H0'
 refine tk (i:=0) (h:=?_)
 try simp only [Act.put,lt,ly,lu]
 refine tk (i:=1) (h:=?_)
 try simp only [Act.put,lt,ly,lu]
 refine tk (i:=3) (h:=?_)
 try simp only [Act.put,lt,ly,lu]
 refine tk (i:=4) (h:=?_)
 try simp only [Act.put,lt,ly,lu]
 refine rdz (i:=2) (h:=fun K hK=>?_);go_simp;go_at_call 90
 refine (DD el.out (hxh.out.keep (bS b1.out b2.out))).mono ?_
 rintro e w3 ⟨v3,rfl,hv3,b3⟩
 obtain ⟨C5,j5,C6,j6,rfl,-,-⟩:=id hv3.opened
 replace hv3:=hid hv3
 replace b3:=hid b3
 have hk3:=Av' H0 HSZa b3.out;clear hHeld H0
 refine hK.out _ _ (by (try dsimp only);with_reducible exact hun hk3) (fun hHeld=>?_)
 clear hK K;try simp only [Act.put,lt,ly,lu]
 refine rdz (i:=5) (h:=fun K hK=>?_);go_simp;go_at_call 90
 refine (DD eh.out (hxl.out.keep (bS (bS b1.out b2.out) b3.out))).mono ?_
 rintro e w4 ⟨v4,rfl,hv4,b4⟩
 obtain ⟨C7,j7,C8,j8,rfl,-,-⟩:=id hv4.opened
 replace hv4:=hid hv4
 replace b4:=hid b4
 have hk4:=Av' hk3 HSZa b4.out;clear hHeld hk3
 refine hK.out _ _ (by (try dsimp only);with_reducible exact hun hk4) (fun hHeld=>?_)
 clear hK K;try simp only [Act.put,lt,ly,lu]
 refine tk (i:=6) (h:=?_)
 try simp only [Act.put,lt,ly,lu]
 have Dq32:=(Ab' g2.out (bS (bS b2.out b3.out) b4.out))
 refine rdz (i:=7) (h:=fun K hK=>?_)
 have q0:w4.cell? ⟨w.heap.size+1,0,none⟩=some (.bool false):=cR _ _ _ _ _ _ Dq32
 have F0:w4.frozen? ⟨w.heap.size+1,0,none⟩=false:=fR w4 (w.heap.size+1) 0 _ _ Dq32
 have q1:w4.cell? ⟨w.heap.size+1,1,none⟩=some (.slice none 0 0):=cR _ _ _ _ _ _ Dq32
 have F1:w4.frozen? ⟨w.heap.size+1,1,none⟩=false:=fR w4 (w.heap.size+1) 1 _ _ Dq32
 have q2:w4.cell? ⟨w.heap.size+1,2,none⟩=some (.slice none 0 0):=cR _ _ _ _ _ _ Dq32
 have F2:w4.frozen? ⟨w.heap.size+1,2,none⟩=false:=fR w4 (w.heap.size+1) 2 _ _ Dq32
 have q3:w4.cell? ⟨w.heap.size+1,3,none⟩=some (.bool false):=cR _ _ _ _ _ _ Dq32
 have F3:w4.frozen? ⟨w.heap.size+1,3,none⟩=false:=fR w4 (w.heap.size+1) 3 _ _ Dq32
 have q4:w4.cell? ⟨w.heap.size+1,4,none⟩=some (.slice none 0 0):=cR _ _ _ _ _ _ Dq32
 have F4:w4.frozen? ⟨w.heap.size+1,4,none⟩=false:=fR w4 (w.heap.size+1) 4 _ _ Dq32
 have q5:w4.cell? ⟨w.heap.size+1,5,none⟩=some (.slice none 0 0):=cR _ _ _ _ _ _ Dq32
 have F5:w4.frozen? ⟨w.heap.size+1,5,none⟩=false:=fR w4 (w.heap.size+1) 5 _ _ Dq32
 replace Dq32:=hid Dq32
 go_simp
 clear q0 F0 q1 F1 q2 F2 q3 F3 q4 F4 q5 F5
 have FB:=hid (bS (bS (bS b1.out b2.out) b3.out) b4.out)
 have FV:=hid (Ah.pair (hv3.out.keep b4.out) hv4.out)
 obtain ⟨ue,hw⟩:=eX (((((((w4.setCell ⟨w.heap.size+1,0,none⟩ (.bool (decide (l.num<0)))).setCell ⟨w.heap.size+1,1,none⟩ (.slice C5 (len l.num.natAbs) j5)).setCell ⟨w.heap.size+1,2,none⟩ (.slice C6 (len l.den) j6)).setCell ⟨w.heap.size+1,3,none⟩ (.bool (decide (h.num<0)))).setCell ⟨w.heap.size+1,4,none⟩ (.slice C7 (len h.num.natAbs) j7)).setCell ⟨w.heap.size+1,5,none⟩ (.slice C8 (len h.den) j8)))
 obtain ⟨E_ue,OT,LV,BL⟩:=AF Dq32.out hw
 rw [←hw]
 clear hw
 replace E_ue:=hid E_ue
 have FE:=hid (LV.rbox FV.out)
 replace FB:=hid (BL _ _ (by omega) FB.out)
 have HKE:=hk4
 refine hK.out _ _ ?_ (fun hHeld2=>?_)
 · (try dsimp only)
   exact ⟨fun b o hb=>(Au (BL (w.heap.size+1) _ (by omega) hk4.2.1)) b o hb,BL (w.heap.size+1) _ (by omega) hk4.2.1,A7' hk4.2.2 LV⟩
 clear hK K hHeld OT LV BL HKE
 try simp only [Act.put,lt,ly,lu]
 have hHeld:=hHeld2
 clear hHeld2
 refine wpAnyH_done (by kernel_rfl) ?_ _
 clear hHeld
 obtain ⟨r0,r1,r2,r3,r4,r5⟩:=Aj E_ue.out
 go_wp2_with fail
 refine bP (v:=.agg #[.bool (decide (l.num<0)),.slice C5 (len l.num.natAbs) j5,.slice C6 (len l.den) j6,.bool (decide (h.num<0)),.slice C7 (len h.num.natAbs) j7,.slice C8 (len h.den) j8]) ?_ rfl ⟨_,rfl,FE.out,FB.out⟩
 simp [results,Tryz.results87,go_sem,r0,r1,r2,r3,r4,r5]
theorem Dv' {w:World} {vx vy:Value} {a b c d l h:Rat} (el:a - d=l) (eh:b - c=h) (hx:Ay' w vx a b) (hy:Ay' w vy c d) (sa:Aa' a≤16777216) (sb:Aa' b≤16777216) (sc:Aa' c≤16777216) (sd:Aa' d≤16777216) :
   Calls Tryz.prog 46 #[vx,vy] w (B3' w l h):=by
 obtain ⟨m,em⟩:=eY (-d:Rat)
 obtain ⟨n,en⟩:=eY (-c:Rat)
 have sm:Aa' m≤16777216:=by rw [←em,Vx.Dm'];exact sd
 have sn:Aa' n≤16777216:=by rw [←en,Vx.Dm'];exact sc
 rw [Rat.sub_eq_add_neg,em] at el
 rw [Rat.sub_eq_add_neg,en] at eh
 clear sc sd
 replace em:=hid em
 replace en:=hid en
 replace el:=hid el
 replace eh:=hid eh
 replace sa:=hid sa
 replace sb:=hid sb
 replace sm:=hid sm
 replace sn:=hid sn
 obtain ⟨C1,j1,C2,j2,C3,j3,C4,j4,rfl,hxl,hxh⟩:=id hx.opened
 replace hx:=hid hx
 replace hxl:=hid hxl
 replace hxh:=hid hxh
 obtain ⟨C5,j5,C6,j6,C7,j7,C8,j8,rfl,hyl,hyh⟩:=id hy.opened
 replace hy:=hid hy
 replace hyl:=hid hyl
 replace hyh:=hid hyh
 obtain ⟨w1,hw1⟩:=eX ((((w.alloc (.cells #[.bool (decide (a.num<0)),.slice C1 (len a.num.natAbs) j1,.slice C2 (len a.den) j2,.bool (decide (b.num<0)),.slice C3 (len b.num.natAbs) j3,.slice C4 (len b.den) j4] 45)).alloc (.cells #[.bool (decide (c.num<0)),.slice C5 (len c.num.natAbs) j5,.slice C6 (len c.den) j6,.bool (decide (d.num<0)),.slice C7 (len d.num.natAbs) j7,.slice C8 (len d.den) j8] 45)).alloc (.cells #[.bool false,.slice none 0 0,.slice none 0 0,.bool false,.slice none 0 0,.slice none 0 0] 45)))
 obtain ⟨b1,g1,g2,g3⟩:=AC hw1
 replace g1:=hid g1
 replace g2:=hid g2
 replace g3:=hid g3
 replace b1:=hid b1
 go_enter Tryz.func46,Tryz.ntmps46
 go_upto_region 1 with fail
 rw [←hw1]
 clear hw1
 go_wp2_with fail
 have HSZa:Hid ((w.heap.size+2)≤w1.heap.size):=hid (by have:=Al' (Ab' g3.out (Below.refl _ w1));omega)
 have hg:w1.heap[w.heap.size]?=some (.cells #[.bool (decide (a.num<0)),.slice C1 (len a.num.natAbs) j1,.slice C2 (len a.den) j2,.bool (decide (b.num<0)),.slice C3 (len b.num.natAbs) j3,.slice C4 (len b.den) j4] 45 (0,0)):=((Below.refl _ w1).block _ (gE.1 g1.out).1).trans g1.out
 obtain ⟨z_x_0,z_x_1,z_x_2,z_x_3,z_x_4,z_x_5⟩:=Aj hg
 clear hg
 have hlta_x:w.heap.size<(w.heap.size+2):=by omega
 have hg:w1.heap[w.heap.size+1]?=some (.cells #[.bool (decide (c.num<0)),.slice C5 (len c.num.natAbs) j5,.slice C6 (len c.den) j6,.bool (decide (d.num<0)),.slice C7 (len d.num.natAbs) j7,.slice C8 (len d.den) j8] 45 (0,0)):=((Below.refl _ w1).block _ (gE.1 g2.out).1).trans g2.out
 obtain ⟨z_y_0,z_y_1,z_y_2,z_y_3,z_y_4,z_y_5⟩:=Aj hg
 clear hg
 have hlta_y:w.heap.size+1<(w.heap.size+2):=by omega
 have H0:=Ah'.start w1 (w.heap.size+2)
 have H0':=H0
 unfold Ah' at H0'
 refine wp_region_held_drew (S:=(fun w'=>(∀ b o,b<(w.heap.size+2)→w'.cell? ⟨b,o,none⟩=w1.cell? ⟨b,o,none⟩)∧Below ((w.heap.size+2)) w1 w'∧An' w1 w')) (by kernel_rfl) ?_ (fun hHeld=>?_)
 · (try dsimp only)
   exact H0'
 obtain ⟨w2,hw2⟩:=eX w1.drew
 have b2:Hid (Below w1.heap.size w1 w2):=by rw [hw2];exact ⟨rfl,rfl,rfl,nL _,fun _ _=>rfl⟩
 rw [←hw2] at hHeld H0 ⊢
 clear hw2 H0'
 refine tk (i:=0) (h:=?_)
 try simp only [Act.put,lt,ly,lu]
 refine tk (i:=1) (h:=?_)
 try simp only [Act.put,lt,ly,lu]
 refine rdz (i:=2) (h:=fun K hK=>?_);go_simp;go_at_call 87
 refine (FA' em.out en.out (hy.out.keep (bS b1.out b2.out))).mono ?_
 rintro e w3 ⟨v3,rfl,hv3,b3⟩
 obtain ⟨C9,j9,C10,j10,C11,j11,C12,j12,rfl,-,-,-,-⟩:=id hv3.opened
 replace hv3:=hid hv3
 replace b3:=hid b3
 have hk3:=Av' H0 HSZa b3.out;clear hHeld H0
 refine hK.out _ _ (by (try dsimp only);with_reducible exact hun hk3) (fun hHeld=>?_)
 clear hK K;try simp only [Act.put,lt,ly,lu]
 refine rdz (i:=3) (h:=fun K hK=>?_);go_simp;go_at_call 86
 refine (FA el.out eh.out (hx.out.keep (bS (bS b1.out b2.out) b3.out)) hv3.out sa.out sb.out sm.out sn.out).mono ?_
 rintro e w4 ⟨v4,rfl,hv4,b4⟩
 obtain ⟨C13,j13,C14,j14,C15,j15,C16,j16,rfl,-,-,-,-⟩:=id hv4.opened
 replace hv4:=hid hv4
 replace b4:=hid b4
 have hk4:=Av' hk3 HSZa b4.out;clear hHeld hk3
 refine hK.out _ _ (by (try dsimp only);with_reducible exact hun hk4) (fun hHeld=>?_)
 clear hK K;try simp only [Act.put,lt,ly,lu]
 have Dq37:=(Ab' g3.out (bS (bS b2.out b3.out) b4.out))
 refine rdz (i:=4) (h:=fun K hK=>?_)
 have q0:w4.cell? ⟨w.heap.size+2,0,none⟩=some (.bool false):=cR _ _ _ _ _ _ Dq37
 have F0:w4.frozen? ⟨w.heap.size+2,0,none⟩=false:=fR w4 (w.heap.size+2) 0 _ _ Dq37
 have q1:w4.cell? ⟨w.heap.size+2,1,none⟩=some (.slice none 0 0):=cR _ _ _ _ _ _ Dq37
 have F1:w4.frozen? ⟨w.heap.size+2,1,none⟩=false:=fR w4 (w.heap.size+2) 1 _ _ Dq37
 have q2:w4.cell? ⟨w.heap.size+2,2,none⟩=some (.slice none 0 0):=cR _ _ _ _ _ _ Dq37
 have F2:w4.frozen? ⟨w.heap.size+2,2,none⟩=false:=fR w4 (w.heap.size+2) 2 _ _ Dq37
 have q3:w4.cell? ⟨w.heap.size+2,3,none⟩=some (.bool false):=cR _ _ _ _ _ _ Dq37
 have F3:w4.frozen? ⟨w.heap.size+2,3,none⟩=false:=fR w4 (w.heap.size+2) 3 _ _ Dq37
 have q4:w4.cell? ⟨w.heap.size+2,4,none⟩=some (.slice none 0 0):=cR _ _ _ _ _ _ Dq37
 have F4:w4.frozen? ⟨w.heap.size+2,4,none⟩=false:=fR w4 (w.heap.size+2) 4 _ _ Dq37
 have q5:w4.cell? ⟨w.heap.size+2,5,none⟩=some (.slice none 0 0):=cR _ _ _ _ _ _ Dq37
 have F5:w4.frozen? ⟨w.heap.size+2,5,none⟩=false:=fR w4 (w.heap.size+2) 5 _ _ Dq37
 replace Dq37:=hid Dq37
 go_simp
 clear q0 F0 q1 F1 q2 F2 q3 F3 q4 F4 q5 F5
 have FB:=hid (bS (bS (bS b1.out b2.out) b3.out) b4.out)
 have FV:=hid hv4.out
 obtain ⟨ue,hw⟩:=eX (((((((w4.setCell ⟨w.heap.size+2,0,none⟩ (.bool (decide (l.num<0)))).setCell ⟨w.heap.size+2,1,none⟩ (.slice C13 (len l.num.natAbs) j13)).setCell ⟨w.heap.size+2,2,none⟩ (.slice C14 (len l.den) j14)).setCell ⟨w.heap.size+2,3,none⟩ (.bool (decide (h.num<0)))).setCell ⟨w.heap.size+2,4,none⟩ (.slice C15 (len h.num.natAbs) j15)).setCell ⟨w.heap.size+2,5,none⟩ (.slice C16 (len h.den) j16)))
 obtain ⟨E_ue,OT,LV,BL⟩:=AF Dq37.out hw
 rw [←hw]
 clear hw
 replace E_ue:=hid E_ue
 have FE:=hid (LV.rbox FV.out)
 replace FB:=hid (BL _ _ (by omega) FB.out)
 have HKE:=hk4
 refine hK.out _ _ ?_ (fun hHeld2=>?_)
 · (try dsimp only)
   exact ⟨fun b o hb=>(Au (BL (w.heap.size+2) _ (by omega) hk4.2.1)) b o hb,BL (w.heap.size+2) _ (by omega) hk4.2.1,A7' hk4.2.2 LV⟩
 clear hK K hHeld OT LV BL HKE
 try simp only [Act.put,lt,ly,lu]
 have hHeld:=hHeld2
 clear hHeld2
 refine wpAnyH_done (by kernel_rfl) ?_ _
 clear hHeld
 obtain ⟨r0,r1,r2,r3,r4,r5⟩:=Aj E_ue.out
 go_wp2_with fail
 refine bP (v:=.agg #[.bool (decide (l.num<0)),.slice C13 (len l.num.natAbs) j13,.slice C14 (len l.den) j14,.bool (decide (h.num<0)),.slice C15 (len h.num.natAbs) j15,.slice C16 (len h.den) j16]) ?_ rfl ⟨_,rfl,FE.out,FB.out⟩
 simp [results,Tryz.results46,go_sem,r0,r1,r2,r3,r4,r5]
end Go.Proofs.YtflopjfnppolgaaGreatDoor.Rf
namespace Go.Proofs.YtflopjfnppolgaaGreatDoor
open Lib (hid)
open Go.RowKit
open Vx
theorem By' {x y:Rat}:cmpQ x y≤0↔x≤y:=by
 constructor
 · intro h
   rcases Decidable.em (x≤y) with h2 | h2
   · exact h2
   · have:=CO' h2;omega
 · intro h
   have:=Cc' h;omega
theorem DS' {w:World} {v vx:Value} {a b x:Rat} (hv:Ao' w v a b) (hx:Ac' w vx x) (sa:Aa' a≤34359738368) (sb:Aa' b≤34359738368) (sx:Aa' x≤34359738368) :
   Calls Tryz.prog 80 #[v,vx] w (AI' w (decide (a≤x∧x≤b))):=by
 obtain ⟨A1,c1,A2,c2,A3,c3,A4,c4,rfl,ha,hb_⟩:=hv.opened
 obtain ⟨A5,c5,A6,c6,rfl,-,-⟩:=id hx.opened
 obtain ⟨wB,hwB⟩:=eX ((w.alloc (.cells #[.bool (decide (a.num<0)),.slice A1 (len a.num.natAbs) c1,.slice A2 (len (below a.den)) c2,.bool (decide (b.num<0)),.slice A3 (len b.num.natAbs) c3,.slice A4 (len (below b.den)) c4] 37)).alloc (.cells #[.bool (decide (x.num<0)),.slice A5 (len x.num.natAbs) c5,.slice A6 (len (below x.den)) c6] 35))
 obtain ⟨b0,g0,g1⟩:=AL' hwB
 obtain ⟨k0,k1,k2,k3,k4,k5⟩:=Aj g0
 obtain ⟨k6,k7,k8⟩:=Ad' g1
 have HB0:=hid b0
 have hlt1:w.heap.size<wB.heap.size:=bL _ _ k0
 have hlt2:w.heap.size+1<wB.heap.size:=(gE.1 g1).1
 clear g0 g1 b0
 have HX:=hid (A6' (ha.keep HB0.out) (hx.keep HB0.out) sa sx)
 have HY:=fun (w1:World) (hb:Below wB.heap.size wB w1)=>hid (A6' ((hx.keep HB0.out).keep hb) ((hb_.keep HB0.out).keep hb) sx sb)
 obtain ⟨z1,hz1⟩:=eX (cmpQ a x:Int)
 obtain ⟨z2,hz2⟩:=eX (cmpQ x b:Int)
 have e1:(z1≤0)↔a≤x:=by rw [hz1];exact By'
 have e2:(z2≤0)↔x≤b:=by rw [hz2];exact By'
 rw [←hz1] at HX
 rw [←hz2] at HY
 obtain ⟨r,hr⟩:=eX (decide (a≤x∧x≤b):Bool)
 rw [←hr]
 clear hz1 hz2 sa sb sx hv ha hb_ hx
 rcases Decidable.em (z1≤0) with h1 | h1
 · rcases Decidable.em (z2≤0) with h2 | h2
   · have d1:decide (z1≤0)=true:=dT_ h1
     have d2:decide (z2≤0)=true:=dT_ h2
     have d3:r=true:=by rw [hr];exact dT_ ⟨e1.1 h1,e2.1 h2⟩
     subst d3
     replace h1:=hid h1
     replace h2:=hid h2
     clear hr e1 e2
     go_enter Tryz.func80,Tryz.ntmps80
     go_upto_region 1 with fail
     rw [←hwB]
     clear hwB
     go_wp2_with fail
     refine (HX.out).mono ?_
     rintro e w1 ⟨rfl,b1⟩
     have hbc:=Au b1
     have HY1:=HY w1 b1
     have HB1:=hid (Go.Proofs.YtflopjfnppolgaaGreatDoor.Ak' HB0.out (Nat.le_of_lt hlt1) b1)
     clear HY HX b1
     go_wp2_with fail
     refine (HY1.out).mono ?_
     rintro e w2 ⟨rfl,b2⟩
     have HE:=hid (HB1.out.trans (b2.mono HB1.out.size))
     clear HY1 b2 hbc
     go_wp2_with fail
     go_ret
     exact ⟨rfl,HE.out⟩
   · have d1:decide (z1≤0)=true:=dT_ h1
     have d2:decide (z2≤0)=false:=dF_ h2
     have d3:r=false:=by rw [hr];exact dF_ (fun h=>h2 (e2.2 h.2))
     subst d3
     replace h1:=hid h1
     replace h2:=hid h2
     clear hr e1 e2
     go_enter Tryz.func80,Tryz.ntmps80
     go_upto_region 1 with fail
     rw [←hwB]
     clear hwB
     go_wp2_with fail
     refine (HX.out).mono ?_
     rintro e w1 ⟨rfl,b1⟩
     have hbc:=Au b1
     have HY1:=HY w1 b1
     have HB1:=hid (Go.Proofs.YtflopjfnppolgaaGreatDoor.Ak' HB0.out (Nat.le_of_lt hlt1) b1)
     clear HY HX b1
     go_wp2_with fail
     refine (HY1.out).mono ?_
     rintro e w2 ⟨rfl,b2⟩
     have HE:=hid (HB1.out.trans (b2.mono HB1.out.size))
     clear HY1 b2 hbc
     go_wp2_with fail
     go_ret
     exact ⟨rfl,HE.out⟩
 · have d1:decide (z1≤0)=false:=dF_ h1
   have d2:r=false:=by rw [hr];exact dF_ (fun h=>h1 (e1.2 h.1))
   subst d2
   replace h1:=hid h1
   clear HY hr e1 e2
   go_enter Tryz.func80,Tryz.ntmps80
   go_upto_region 1 with fail
   rw [←hwB]
   clear hwB
   go_wp2_with fail
   refine (HX.out).mono ?_
   rintro e w1 ⟨rfl,b1⟩
   have HE:=hid (Go.Proofs.YtflopjfnppolgaaGreatDoor.Ak' HB0.out (Nat.le_of_lt hlt1) b1)
   clear HX b1
   go_wp2_with fail
   go_ret
   exact ⟨rfl,HE.out⟩
end Go.Proofs.YtflopjfnppolgaaGreatDoor
namespace Go.Proofs.YtflopjfnppolgaaGreatDoor.Rf
open Lib (hid)
open Go.RowKit
open Rx
open Vx (Aa' Ai Ai')
open List renaming getElem?_toArray → lg, getElem?_cons_zero → lz, getElem?_cons_succ → ls, setIfInBounds_toArray → lt, set_cons_zero → ly, set_cons_succ → lu
theorem H2' {w:World} {vx vy:Value} {a b p:Rat} {r:Bool} (hr:decide (a≤p∧p≤b)=r) (hx:Ay' w vx a b) (hy:Ah w vy p) (sa:Aa' a≤16777216) (sb:Aa' b≤16777216) (sp:Aa' p≤16777216) :
   Calls Tryz.prog 49 #[vx,vy] w (AI' w r):=by
 obtain ⟨c1,e1⟩:=eY (cmpQ a p:Int)
 obtain ⟨c2,e2⟩:=eY (cmpQ p b:Int)
 have ta:Aa' a≤268435456:=by omega
 have tb:Aa' b≤268435456:=by omega
 have tp:Aa' p≤268435456:=by omega
 clear sa sb sp
 replace ta:=hid ta
 replace tb:=hid tb
 replace tp:=hid tp
 rcases Decidable.em (a≤p) with h | h
 · have d1:decide (c1≤0)=true:=dT_ (by rw [←e1];exact By'.2 h)
   have d2:decide (c2≤0)=r:=by
     rw [←hr,←e2]
     exact decide_eq_decide.2 ⟨fun k=>⟨h,By'.1 k⟩,fun k=>By'.2 k.2⟩
   replace e1:=hid e1
   replace e2:=hid e2
   clear h hr
   obtain ⟨C1,j1,C2,j2,C3,j3,C4,j4,rfl,hxl,hxh⟩:=id hx.opened
   replace hx:=hid hx
   replace hxl:=hid hxl
   replace hxh:=hid hxh
   obtain ⟨C5,j5,C6,j6,rfl,-,-⟩:=id hy.opened
   replace hy:=hid hy
   obtain ⟨w1,hw1⟩:=eX (((w.alloc (.cells #[.bool (decide (a.num<0)),.slice C1 (len a.num.natAbs) j1,.slice C2 (len a.den) j2,.bool (decide (b.num<0)),.slice C3 (len b.num.natAbs) j3,.slice C4 (len b.den) j4] 45)).alloc (.cells #[.bool (decide (p.num<0)),.slice C5 (len p.num.natAbs) j5,.slice C6 (len p.den) j6] 43)))
   obtain ⟨b1,g1,g2⟩:=AL' hw1
   replace g1:=hid g1
   replace g2:=hid g2
   replace b1:=hid b1
   go_enter Tryz.func49,Tryz.ntmps49
   go_upto_region 1 with fail
   rw [←hw1]
   clear hw1
   have hg:w1.heap[w.heap.size]?=some (.cells #[.bool (decide (a.num<0)),.slice C1 (len a.num.natAbs) j1,.slice C2 (len a.den) j2,.bool (decide (b.num<0)),.slice C3 (len b.num.natAbs) j3,.slice C4 (len b.den) j4] 45 (0,0)):=((Below.refl _ w1).block _ (gE.1 g1.out).1).trans g1.out
   obtain ⟨z_x_0,z_x_1,z_x_2,z_x_3,z_x_4,z_x_5⟩:=Aj hg
   clear hg
   have hg:w1.heap[w.heap.size+1]?=some (.cells #[.bool (decide (p.num<0)),.slice C5 (len p.num.natAbs) j5,.slice C6 (len p.den) j6] 43 (0,0)):=((Below.refl _ w1).block _ (gE.1 g2.out).1).trans g2.out
   obtain ⟨z_y_0,z_y_1,z_y_2⟩:=Ad' hg
   clear hg
   have HX:=hid (A4' e1.out (hxl.out.keep b1.out) (hy.out.keep b1.out) ta.out tp.out)
   go_wp2_with fail
   refine (HX.out).mono ?_
   rintro e w2 ⟨rfl,b2⟩
   replace b2:=hid b2
   clear HX
   clear z_x_0 z_x_1 z_x_2 z_x_3 z_x_4 z_x_5 z_y_0 z_y_1 z_y_2
   have hg:w2.heap[w.heap.size]?=some (.cells #[.bool (decide (a.num<0)),.slice C1 (len a.num.natAbs) j1,.slice C2 (len a.den) j2,.bool (decide (b.num<0)),.slice C3 (len b.num.natAbs) j3,.slice C4 (len b.den) j4] 45 (0,0)):=(b2.out.block _ (gE.1 g1.out).1).trans g1.out
   obtain ⟨z_x_0,z_x_1,z_x_2,z_x_3,z_x_4,z_x_5⟩:=Aj hg
   clear hg
   have hg:w2.heap[w.heap.size+1]?=some (.cells #[.bool (decide (p.num<0)),.slice C5 (len p.num.natAbs) j5,.slice C6 (len p.den) j6] 43 (0,0)):=(b2.out.block _ (gE.1 g2.out).1).trans g2.out
   obtain ⟨z_y_0,z_y_1,z_y_2⟩:=Ad' hg
   clear hg
   have HX:=hid (A4' e2.out (hy.out.keep (bS b1.out b2.out)) (hxh.out.keep (bS b1.out b2.out)) tp.out tb.out)
   go_wp2_with fail
   refine (HX.out).mono ?_
   rintro e w3 ⟨rfl,b3⟩
   replace b3:=hid b3
   clear HX
   clear z_x_0 z_x_1 z_x_2 z_x_3 z_x_4 z_x_5 z_y_0 z_y_1 z_y_2
   have HE:=hid (bS (bS b1.out b2.out) b3.out)
   go_wp2_with fail
   go_ret
   exact ⟨rfl,HE.out⟩
 · have d1:decide (c1≤0)=false:=dF_ (by rw [←e1];exact fun k=>h (By'.1 k))
   have d2:r=false:=by rw [←hr];exact dF_ (fun k=>h k.1)
   subst d2
   replace e1:=hid e1
   clear h hr e2
   obtain ⟨C7,j7,C8,j8,C9,j9,C10,j10,rfl,hxl,hxh⟩:=id hx.opened
   replace hx:=hid hx
   replace hxl:=hid hxl
   replace hxh:=hid hxh
   obtain ⟨C11,j11,C12,j12,rfl,-,-⟩:=id hy.opened
   replace hy:=hid hy
   obtain ⟨w1,hw1⟩:=eX (((w.alloc (.cells #[.bool (decide (a.num<0)),.slice C7 (len a.num.natAbs) j7,.slice C8 (len a.den) j8,.bool (decide (b.num<0)),.slice C9 (len b.num.natAbs) j9,.slice C10 (len b.den) j10] 45)).alloc (.cells #[.bool (decide (p.num<0)),.slice C11 (len p.num.natAbs) j11,.slice C12 (len p.den) j12] 43)))
   obtain ⟨b1,g1,g2⟩:=AL' hw1
   replace g1:=hid g1
   replace g2:=hid g2
   replace b1:=hid b1
   go_enter Tryz.func49,Tryz.ntmps49
   go_upto_region 1 with fail
   rw [←hw1]
   clear hw1
   have hg:w1.heap[w.heap.size]?=some (.cells #[.bool (decide (a.num<0)),.slice C7 (len a.num.natAbs) j7,.slice C8 (len a.den) j8,.bool (decide (b.num<0)),.slice C9 (len b.num.natAbs) j9,.slice C10 (len b.den) j10] 45 (0,0)):=((Below.refl _ w1).block _ (gE.1 g1.out).1).trans g1.out
   obtain ⟨z_x_0,z_x_1,z_x_2,z_x_3,z_x_4,z_x_5⟩:=Aj hg
   clear hg
   have hg:w1.heap[w.heap.size+1]?=some (.cells #[.bool (decide (p.num<0)),.slice C11 (len p.num.natAbs) j11,.slice C12 (len p.den) j12] 43 (0,0)):=((Below.refl _ w1).block _ (gE.1 g2.out).1).trans g2.out
   obtain ⟨z_y_0,z_y_1,z_y_2⟩:=Ad' hg
   clear hg
   have HX:=hid (A4' e1.out (hxl.out.keep b1.out) (hy.out.keep b1.out) ta.out tp.out)
   go_wp2_with fail
   refine (HX.out).mono ?_
   rintro e w2 ⟨rfl,b2⟩
   replace b2:=hid b2
   clear HX
   clear z_x_0 z_x_1 z_x_2 z_x_3 z_x_4 z_x_5 z_y_0 z_y_1 z_y_2
   have HE:=hid (bS b1.out b2.out)
   go_wp2_with fail
   go_ret
   exact ⟨rfl,HE.out⟩
theorem AR' {w u:World} {o:Obj} (h:u=w.alloc o):u.heap[w.heap.size]?=some o:=h ▸ hA_ w o
theorem AO' {w u:World} {o:Obj} (h:u=w.alloc o):Below w.heap.size w u:=h ▸ Am' w o
theorem Ch {w u:World} {o1 o2:Obj} (h:u=(w.alloc o1).alloc o2):Below w.heap.size w u∧u.heap[w.heap.size]?=some o1∧u.heap[w.heap.size+1]?=some o2:=h ▸ DN' w o1 o2
end Go.Proofs.YtflopjfnppolgaaGreatDoor.Rf
