/-
  Contracts of the functions that the law calls, for every input (Te BoxI Tg Ts).
-/
import Derived.Test.YtbigkkjnhcpgiaaGreatDoorQ00
import Derived.Test.YtbigkkjnhcpgiaaGreatDoorQ37
import Derived.Test.YtbigkkjnhcpgiaaGreatDoorQ22
import Derived.Test.YtbigkkjnhcpgiaaGreatDoorQ19
set_option linter.all false
set_option maxRecDepth 100000
set_option maxHeartbeats 40000000
namespace Go.Proofs.YtbigkkjnhcpgiaaGreatDoor.Rf
open Lib (hid)
open Go.RowKit
open Rx
open Vx (Aa' Al' Am)
open List renaming getElem?_toArray → lg, getElem?_cons_zero → lz, getElem?_cons_succ → ls, setIfInBounds_toArray → lt, set_cons_zero → ly, set_cons_succ → lu
theorem Fj {x y:Rat}:cmpQ x y≤0↔x≤y:=by
 unfold cmpQ
 rcases Decidable.em (x<y) with h | h
 · rw [if_pos h];exact ⟨fun _=>Rat.le_of_lt h,fun _=>by decide⟩
 · rw [if_neg h]
   rcases Decidable.em (x=y) with k | k
   · rw [if_pos k];exact ⟨fun _=>k ▸ Rat.le_refl,fun _=>by decide⟩
   · rw [if_neg k];exact ⟨fun a=>absurd a (by decide),fun a=>absurd (Rat.le_antisymm a (Rat.not_lt.1 h)) k⟩
theorem Fj' {x y:Rat}:cmpQ x y≥0↔y≤x:=by
 unfold cmpQ
 rcases Decidable.em (x<y) with h | h
 · rw [if_pos h];exact ⟨fun a=>absurd a (by decide),fun a=>absurd h (Rat.not_lt.2 a)⟩
 · rw [if_neg h]
   exact ⟨fun _=>Rat.not_lt.1 h,fun _=>by split <;> decide⟩
theorem Fk {w:World} {vx vy:Value} {p q r:Rat} (hr:(if p≤q then p else q)=r) (hx:Ah' w vx p) (hy:Ah' w vy q) (sp:Aa' p≤16777216) (sq:Aa' q≤16777216) :
   Calls Tryz.prog 93 #[vx,vy] w (Bc w r):=by
 have tp:Aa' p≤268435456:=by omega
 have tq:Aa' q≤268435456:=by omega
 replace tp:=hid tp
 replace tq:=hid tq
 clear sp sq
 obtain ⟨c,ec⟩:=eY (cmpQ p q:Int)
 rcases Decidable.em (p≤q) with h | h
 · rw [if_pos h] at hr
   subst hr
   have hc:decide (c≤0)=true:=dT_ (by rw [←ec];exact Fj.2 h)
   replace ec:=hid ec
   clear h
   obtain ⟨C1,j1,C2,j2,rfl,-,-⟩:=id hx.opened
   replace hx:=hid hx
   obtain ⟨C3,j3,C4,j4,rfl,-,-⟩:=id hy.opened
   replace hy:=hid hy
   obtain ⟨w1,hw1⟩:=eX ((((w.alloc (.cells #[.bool (decide (p.num<0)),.slice C1 (len p.num.natAbs) j1,.slice C2 (len p.den) j2] 39)).alloc (.cells #[.bool (decide (q.num<0)),.slice C3 (len q.num.natAbs) j3,.slice C4 (len q.den) j4] 39)).alloc (.cells #[.bool false,.slice none 0 0,.slice none 0 0] 39)))
   obtain ⟨b1,g1,g2,g3⟩:=AK' hw1
   replace g1:=hid g1
   replace g2:=hid g2
   replace g3:=hid g3
   replace b1:=hid b1
   go_enter Tryz.func93,Tryz.ntmps93
   go_upto_region 1 with fail
   rw [←hw1]
   clear hw1
   have hg:w1.heap[w.heap.size]?=some (.cells #[.bool (decide (p.num<0)),.slice C1 (len p.num.natAbs) j1,.slice C2 (len p.den) j2] 39 (0,0)):=((Below.refl _ w1).block _ (gE.1 g1.out).1).trans g1.out
   obtain ⟨z_x_0,z_x_1,z_x_2⟩:=Ab' hg
   clear hg
   have hg:w1.heap[w.heap.size+1]?=some (.cells #[.bool (decide (q.num<0)),.slice C3 (len q.num.natAbs) j3,.slice C4 (len q.den) j4] 39 (0,0)):=((Below.refl _ w1).block _ (gE.1 g2.out).1).trans g2.out
   obtain ⟨z_y_0,z_y_1,z_y_2⟩:=Ab' hg
   clear hg
   have HX:=hid (CC ec.out (hx.out.keep b1.out) (hy.out.keep b1.out) tp.out tq.out)
   go_wp2_with fail
   refine (HX.out).mono ?_
   rintro e w2 ⟨rfl,b2⟩
   replace b2:=hid b2
   clear HX
   clear z_x_0 z_x_1 z_x_2 z_y_0 z_y_1 z_y_2
   have hg:w2.heap[w.heap.size]?=some (.cells #[.bool (decide (p.num<0)),.slice C1 (len p.num.natAbs) j1,.slice C2 (len p.den) j2] 39 (0,0)):=(b2.out.block _ (gE.1 g1.out).1).trans g1.out
   obtain ⟨z_x_0,z_x_1,z_x_2⟩:=Ab' hg
   clear hg
   have DR:=(Ad' g3.out b2.out)
   have q0:w2.cell? ⟨w.heap.size+2,0,none⟩=some (.bool false):=cR _ _ _ _ _ _ DR
   have F0:w2.frozen? ⟨w.heap.size+2,0,none⟩=false:=fR w2 (w.heap.size+2) 0 _ _ DR
   have q1:w2.cell? ⟨w.heap.size+2,1,none⟩=some (.slice none 0 0):=cR _ _ _ _ _ _ DR
   have F1:w2.frozen? ⟨w.heap.size+2,1,none⟩=false:=fR w2 (w.heap.size+2) 1 _ _ DR
   have q2:w2.cell? ⟨w.heap.size+2,2,none⟩=some (.slice none 0 0):=cR _ _ _ _ _ _ DR
   have F2:w2.frozen? ⟨w.heap.size+2,2,none⟩=false:=fR w2 (w.heap.size+2) 2 _ _ DR
   have FB:=(bS b1.out b2.out)
   have FV:=(hx.out.keep (bS b1.out b2.out))
   obtain ⟨ue,hw⟩:=eX ((((w2.setCell ⟨w.heap.size+2,0,none⟩ (.bool (decide (p.num<0)))).setCell ⟨w.heap.size+2,1,none⟩ (.slice C1 (len p.num.natAbs) j1)).setCell ⟨w.heap.size+2,2,none⟩ (.slice C2 (len p.den) j2)))
   obtain ⟨E_ue,-,LV,BL⟩:=A7' DR hw
   have FE:=hid (LV.rat FV)
   replace FB:=hid (BL _ _ (by omega) FB)
   replace E_ue:=hid E_ue
   replace hw:=hid hw
   clear DR FV LV BL
   go_wp2_with fail
   rw [←hw.out]
   obtain ⟨r0,r1,r2⟩:=Ab' E_ue.out
   refine bP (v:=.agg #[.bool (decide (p.num<0)),.slice C1 (len p.num.natAbs) j1,.slice C2 (len p.den) j2]) ?_ rfl ⟨_,rfl,FE.out,FB.out⟩
   simp [results,Tryz.results93,go_sem,r0,r1,r2]
 · rw [if_neg h] at hr
   subst hr
   have hc:decide (c≤0)=false:=dF_ (by rw [←ec];exact fun k=>h (Fj.1 k))
   replace ec:=hid ec
   clear h
   obtain ⟨C5,j5,C6,j6,rfl,-,-⟩:=id hx.opened
   replace hx:=hid hx
   obtain ⟨C7,j7,C8,j8,rfl,-,-⟩:=id hy.opened
   replace hy:=hid hy
   obtain ⟨w1,hw1⟩:=eX ((((w.alloc (.cells #[.bool (decide (p.num<0)),.slice C5 (len p.num.natAbs) j5,.slice C6 (len p.den) j6] 39)).alloc (.cells #[.bool (decide (q.num<0)),.slice C7 (len q.num.natAbs) j7,.slice C8 (len q.den) j8] 39)).alloc (.cells #[.bool false,.slice none 0 0,.slice none 0 0] 39)))
   obtain ⟨b1,g1,g2,g3⟩:=AK' hw1
   replace g1:=hid g1
   replace g2:=hid g2
   replace g3:=hid g3
   replace b1:=hid b1
   go_enter Tryz.func93,Tryz.ntmps93
   go_upto_region 1 with fail
   rw [←hw1]
   clear hw1
   have hg:w1.heap[w.heap.size]?=some (.cells #[.bool (decide (p.num<0)),.slice C5 (len p.num.natAbs) j5,.slice C6 (len p.den) j6] 39 (0,0)):=((Below.refl _ w1).block _ (gE.1 g1.out).1).trans g1.out
   obtain ⟨z_x_0,z_x_1,z_x_2⟩:=Ab' hg
   clear hg
   have hg:w1.heap[w.heap.size+1]?=some (.cells #[.bool (decide (q.num<0)),.slice C7 (len q.num.natAbs) j7,.slice C8 (len q.den) j8] 39 (0,0)):=((Below.refl _ w1).block _ (gE.1 g2.out).1).trans g2.out
   obtain ⟨z_y_0,z_y_1,z_y_2⟩:=Ab' hg
   clear hg
   have HX:=hid (CC ec.out (hx.out.keep b1.out) (hy.out.keep b1.out) tp.out tq.out)
   go_wp2_with fail
   refine (HX.out).mono ?_
   rintro e w2 ⟨rfl,b2⟩
   replace b2:=hid b2
   clear HX
   clear z_x_0 z_x_1 z_x_2 z_y_0 z_y_1 z_y_2
   have hg:w2.heap[w.heap.size+1]?=some (.cells #[.bool (decide (q.num<0)),.slice C7 (len q.num.natAbs) j7,.slice C8 (len q.den) j8] 39 (0,0)):=(b2.out.block _ (gE.1 g2.out).1).trans g2.out
   obtain ⟨z_y_0,z_y_1,z_y_2⟩:=Ab' hg
   clear hg
   have DR:=(Ad' g3.out b2.out)
   have q0:w2.cell? ⟨w.heap.size+2,0,none⟩=some (.bool false):=cR _ _ _ _ _ _ DR
   have F0:w2.frozen? ⟨w.heap.size+2,0,none⟩=false:=fR w2 (w.heap.size+2) 0 _ _ DR
   have q1:w2.cell? ⟨w.heap.size+2,1,none⟩=some (.slice none 0 0):=cR _ _ _ _ _ _ DR
   have F1:w2.frozen? ⟨w.heap.size+2,1,none⟩=false:=fR w2 (w.heap.size+2) 1 _ _ DR
   have q2:w2.cell? ⟨w.heap.size+2,2,none⟩=some (.slice none 0 0):=cR _ _ _ _ _ _ DR
   have F2:w2.frozen? ⟨w.heap.size+2,2,none⟩=false:=fR w2 (w.heap.size+2) 2 _ _ DR
   have FB:=(bS b1.out b2.out)
   have FV:=(hy.out.keep (bS b1.out b2.out))
   obtain ⟨ue,hw⟩:=eX ((((w2.setCell ⟨w.heap.size+2,0,none⟩ (.bool (decide (q.num<0)))).setCell ⟨w.heap.size+2,1,none⟩ (.slice C7 (len q.num.natAbs) j7)).setCell ⟨w.heap.size+2,2,none⟩ (.slice C8 (len q.den) j8)))
   obtain ⟨E_ue,-,LV,BL⟩:=A7' DR hw
   have FE:=hid (LV.rat FV)
   replace FB:=hid (BL _ _ (by omega) FB)
   replace E_ue:=hid E_ue
   replace hw:=hid hw
   clear DR FV LV BL
   go_wp2_with fail
   rw [←hw.out]
   obtain ⟨r0,r1,r2⟩:=Ab' E_ue.out
   refine bP (v:=.agg #[.bool (decide (q.num<0)),.slice C7 (len q.num.natAbs) j7,.slice C8 (len q.den) j8]) ?_ rfl ⟨_,rfl,FE.out,FB.out⟩
   simp [results,Tryz.results93,go_sem,r0,r1,r2]
theorem Fk' {w:World} {vx vy:Value} {p q r:Rat} (hr:(if q≤p then p else q)=r) (hx:Ah' w vx p) (hy:Ah' w vy q) (sp:Aa' p≤16777216) (sq:Aa' q≤16777216) :
   Calls Tryz.prog 94 #[vx,vy] w (Bc w r):=by
 have tp:Aa' p≤268435456:=by omega
 have tq:Aa' q≤268435456:=by omega
 replace tp:=hid tp
 replace tq:=hid tq
 clear sp sq
 obtain ⟨c,ec⟩:=eY (cmpQ p q:Int)
 rcases Decidable.em (q≤p) with h | h
 · rw [if_pos h] at hr
   subst hr
   have hc:decide (c≥0)=true:=dT_ (by rw [←ec];exact Fj'.2 h)
   replace ec:=hid ec
   clear h
   obtain ⟨C1,j1,C2,j2,rfl,-,-⟩:=id hx.opened
   replace hx:=hid hx
   obtain ⟨C3,j3,C4,j4,rfl,-,-⟩:=id hy.opened
   replace hy:=hid hy
   obtain ⟨w1,hw1⟩:=eX ((((w.alloc (.cells #[.bool (decide (p.num<0)),.slice C1 (len p.num.natAbs) j1,.slice C2 (len p.den) j2] 39)).alloc (.cells #[.bool (decide (q.num<0)),.slice C3 (len q.num.natAbs) j3,.slice C4 (len q.den) j4] 39)).alloc (.cells #[.bool false,.slice none 0 0,.slice none 0 0] 39)))
   obtain ⟨b1,g1,g2,g3⟩:=AK' hw1
   replace g1:=hid g1
   replace g2:=hid g2
   replace g3:=hid g3
   replace b1:=hid b1
   go_enter Tryz.func94,Tryz.ntmps94
   go_upto_region 1 with fail
   rw [←hw1]
   clear hw1
   have hg:w1.heap[w.heap.size]?=some (.cells #[.bool (decide (p.num<0)),.slice C1 (len p.num.natAbs) j1,.slice C2 (len p.den) j2] 39 (0,0)):=((Below.refl _ w1).block _ (gE.1 g1.out).1).trans g1.out
   obtain ⟨z_x_0,z_x_1,z_x_2⟩:=Ab' hg
   clear hg
   have hg:w1.heap[w.heap.size+1]?=some (.cells #[.bool (decide (q.num<0)),.slice C3 (len q.num.natAbs) j3,.slice C4 (len q.den) j4] 39 (0,0)):=((Below.refl _ w1).block _ (gE.1 g2.out).1).trans g2.out
   obtain ⟨z_y_0,z_y_1,z_y_2⟩:=Ab' hg
   clear hg
   have HX:=hid (CC ec.out (hx.out.keep b1.out) (hy.out.keep b1.out) tp.out tq.out)
   go_wp2_with fail
   refine (HX.out).mono ?_
   rintro e w2 ⟨rfl,b2⟩
   replace b2:=hid b2
   clear HX
   clear z_x_0 z_x_1 z_x_2 z_y_0 z_y_1 z_y_2
   have hg:w2.heap[w.heap.size]?=some (.cells #[.bool (decide (p.num<0)),.slice C1 (len p.num.natAbs) j1,.slice C2 (len p.den) j2] 39 (0,0)):=(b2.out.block _ (gE.1 g1.out).1).trans g1.out
   obtain ⟨z_x_0,z_x_1,z_x_2⟩:=Ab' hg
   clear hg
   have DR:=(Ad' g3.out b2.out)
   have q0:w2.cell? ⟨w.heap.size+2,0,none⟩=some (.bool false):=cR _ _ _ _ _ _ DR
   have F0:w2.frozen? ⟨w.heap.size+2,0,none⟩=false:=fR w2 (w.heap.size+2) 0 _ _ DR
   have q1:w2.cell? ⟨w.heap.size+2,1,none⟩=some (.slice none 0 0):=cR _ _ _ _ _ _ DR
   have F1:w2.frozen? ⟨w.heap.size+2,1,none⟩=false:=fR w2 (w.heap.size+2) 1 _ _ DR
   have q2:w2.cell? ⟨w.heap.size+2,2,none⟩=some (.slice none 0 0):=cR _ _ _ _ _ _ DR
   have F2:w2.frozen? ⟨w.heap.size+2,2,none⟩=false:=fR w2 (w.heap.size+2) 2 _ _ DR
   have FB:=(bS b1.out b2.out)
   have FV:=(hx.out.keep (bS b1.out b2.out))
   obtain ⟨ue,hw⟩:=eX ((((w2.setCell ⟨w.heap.size+2,0,none⟩ (.bool (decide (p.num<0)))).setCell ⟨w.heap.size+2,1,none⟩ (.slice C1 (len p.num.natAbs) j1)).setCell ⟨w.heap.size+2,2,none⟩ (.slice C2 (len p.den) j2)))
   obtain ⟨E_ue,-,LV,BL⟩:=A7' DR hw
   have FE:=hid (LV.rat FV)
   replace FB:=hid (BL _ _ (by omega) FB)
   replace E_ue:=hid E_ue
   replace hw:=hid hw
   clear DR FV LV BL
   go_wp2_with fail
   rw [←hw.out]
   obtain ⟨r0,r1,r2⟩:=Ab' E_ue.out
   refine bP (v:=.agg #[.bool (decide (p.num<0)),.slice C1 (len p.num.natAbs) j1,.slice C2 (len p.den) j2]) ?_ rfl ⟨_,rfl,FE.out,FB.out⟩
   simp [results,Tryz.results94,go_sem,r0,r1,r2]
 · rw [if_neg h] at hr
   subst hr
   have hc:decide (c≥0)=false:=dF_ (by rw [←ec];exact fun k=>h (Fj'.1 k))
   replace ec:=hid ec
   clear h
   obtain ⟨C5,j5,C6,j6,rfl,-,-⟩:=id hx.opened
   replace hx:=hid hx
   obtain ⟨C7,j7,C8,j8,rfl,-,-⟩:=id hy.opened
   replace hy:=hid hy
   obtain ⟨w1,hw1⟩:=eX ((((w.alloc (.cells #[.bool (decide (p.num<0)),.slice C5 (len p.num.natAbs) j5,.slice C6 (len p.den) j6] 39)).alloc (.cells #[.bool (decide (q.num<0)),.slice C7 (len q.num.natAbs) j7,.slice C8 (len q.den) j8] 39)).alloc (.cells #[.bool false,.slice none 0 0,.slice none 0 0] 39)))
   obtain ⟨b1,g1,g2,g3⟩:=AK' hw1
   replace g1:=hid g1
   replace g2:=hid g2
   replace g3:=hid g3
   replace b1:=hid b1
   go_enter Tryz.func94,Tryz.ntmps94
   go_upto_region 1 with fail
   rw [←hw1]
   clear hw1
   have hg:w1.heap[w.heap.size]?=some (.cells #[.bool (decide (p.num<0)),.slice C5 (len p.num.natAbs) j5,.slice C6 (len p.den) j6] 39 (0,0)):=((Below.refl _ w1).block _ (gE.1 g1.out).1).trans g1.out
   obtain ⟨z_x_0,z_x_1,z_x_2⟩:=Ab' hg
   clear hg
   have hg:w1.heap[w.heap.size+1]?=some (.cells #[.bool (decide (q.num<0)),.slice C7 (len q.num.natAbs) j7,.slice C8 (len q.den) j8] 39 (0,0)):=((Below.refl _ w1).block _ (gE.1 g2.out).1).trans g2.out
   obtain ⟨z_y_0,z_y_1,z_y_2⟩:=Ab' hg
   clear hg
   have HX:=hid (CC ec.out (hx.out.keep b1.out) (hy.out.keep b1.out) tp.out tq.out)
   go_wp2_with fail
   refine (HX.out).mono ?_
   rintro e w2 ⟨rfl,b2⟩
   replace b2:=hid b2
   clear HX
   clear z_x_0 z_x_1 z_x_2 z_y_0 z_y_1 z_y_2
   have hg:w2.heap[w.heap.size+1]?=some (.cells #[.bool (decide (q.num<0)),.slice C7 (len q.num.natAbs) j7,.slice C8 (len q.den) j8] 39 (0,0)):=(b2.out.block _ (gE.1 g2.out).1).trans g2.out
   obtain ⟨z_y_0,z_y_1,z_y_2⟩:=Ab' hg
   clear hg
   have DR:=(Ad' g3.out b2.out)
   have q0:w2.cell? ⟨w.heap.size+2,0,none⟩=some (.bool false):=cR _ _ _ _ _ _ DR
   have F0:w2.frozen? ⟨w.heap.size+2,0,none⟩=false:=fR w2 (w.heap.size+2) 0 _ _ DR
   have q1:w2.cell? ⟨w.heap.size+2,1,none⟩=some (.slice none 0 0):=cR _ _ _ _ _ _ DR
   have F1:w2.frozen? ⟨w.heap.size+2,1,none⟩=false:=fR w2 (w.heap.size+2) 1 _ _ DR
   have q2:w2.cell? ⟨w.heap.size+2,2,none⟩=some (.slice none 0 0):=cR _ _ _ _ _ _ DR
   have F2:w2.frozen? ⟨w.heap.size+2,2,none⟩=false:=fR w2 (w.heap.size+2) 2 _ _ DR
   have FB:=(bS b1.out b2.out)
   have FV:=(hy.out.keep (bS b1.out b2.out))
   obtain ⟨ue,hw⟩:=eX ((((w2.setCell ⟨w.heap.size+2,0,none⟩ (.bool (decide (q.num<0)))).setCell ⟨w.heap.size+2,1,none⟩ (.slice C7 (len q.num.natAbs) j7)).setCell ⟨w.heap.size+2,2,none⟩ (.slice C8 (len q.den) j8)))
   obtain ⟨E_ue,-,LV,BL⟩:=A7' DR hw
   have FE:=hid (LV.rat FV)
   replace FB:=hid (BL _ _ (by omega) FB)
   replace E_ue:=hid E_ue
   replace hw:=hid hw
   clear DR FV LV BL
   go_wp2_with fail
   rw [←hw.out]
   obtain ⟨r0,r1,r2⟩:=Ab' E_ue.out
   refine bP (v:=.agg #[.bool (decide (q.num<0)),.slice C7 (len q.num.natAbs) j7,.slice C8 (len q.den) j8]) ?_ rfl ⟨_,rfl,FE.out,FB.out⟩
   simp [results,Tryz.results94,go_sem,r0,r1,r2]
theorem C6' {w:World} {vx:Value} {p:Rat} (hx:Ah' w vx p) :
   Calls Tryz.prog 40 #[vx] w (Cf' w p p):=by
 obtain ⟨C1,j1,C2,j2,rfl,-,-⟩:=id hx.opened
 replace hx:=hid hx
 obtain ⟨w1,hw1⟩:=eX (((w.alloc (.cells #[.bool (decide (p.num<0)),.slice C1 (len p.num.natAbs) j1,.slice C2 (len p.den) j2] 39)).alloc (.cells #[.bool false,.slice none 0 0,.slice none 0 0,.bool false,.slice none 0 0,.slice none 0 0] 41)))
 obtain ⟨b1,g1,g2⟩:=AA' hw1
 replace g1:=hid g1
 replace g2:=hid g2
 replace b1:=hid b1
 go_enter Tryz.func40,Tryz.ntmps40
 go_upto_region 1 with fail
 rw [←hw1]
 clear hw1
 have hg:w1.heap[w.heap.size]?=some (.cells #[.bool (decide (p.num<0)),.slice C1 (len p.num.natAbs) j1,.slice C2 (len p.den) j2] 39 (0,0)):=((Below.refl _ w1).block _ (gE.1 g1.out).1).trans g1.out
 obtain ⟨z_x_0,z_x_1,z_x_2⟩:=Ab' hg
 clear hg
 have DR:=(Ad' g2.out (Below.refl _ w1))
 have q0:w1.cell? ⟨w.heap.size+1,0,none⟩=some (.bool false):=cR _ _ _ _ _ _ DR
 have F0:w1.frozen? ⟨w.heap.size+1,0,none⟩=false:=fR w1 (w.heap.size+1) 0 _ _ DR
 have q1:w1.cell? ⟨w.heap.size+1,1,none⟩=some (.slice none 0 0):=cR _ _ _ _ _ _ DR
 have F1:w1.frozen? ⟨w.heap.size+1,1,none⟩=false:=fR w1 (w.heap.size+1) 1 _ _ DR
 have q2:w1.cell? ⟨w.heap.size+1,2,none⟩=some (.slice none 0 0):=cR _ _ _ _ _ _ DR
 have F2:w1.frozen? ⟨w.heap.size+1,2,none⟩=false:=fR w1 (w.heap.size+1) 2 _ _ DR
 have q3:w1.cell? ⟨w.heap.size+1,3,none⟩=some (.bool false):=cR _ _ _ _ _ _ DR
 have F3:w1.frozen? ⟨w.heap.size+1,3,none⟩=false:=fR w1 (w.heap.size+1) 3 _ _ DR
 have q4:w1.cell? ⟨w.heap.size+1,4,none⟩=some (.slice none 0 0):=cR _ _ _ _ _ _ DR
 have F4:w1.frozen? ⟨w.heap.size+1,4,none⟩=false:=fR w1 (w.heap.size+1) 4 _ _ DR
 have q5:w1.cell? ⟨w.heap.size+1,5,none⟩=some (.slice none 0 0):=cR _ _ _ _ _ _ DR
 have F5:w1.frozen? ⟨w.heap.size+1,5,none⟩=false:=fR w1 (w.heap.size+1) 5 _ _ DR
 have FB:=b1.out
 have FV:=(Ah'.pair (hx.out.keep b1.out) (hx.out.keep b1.out))
 obtain ⟨ue,hw⟩:=eX (((((((w1.setCell ⟨w.heap.size+1,0,none⟩ (.bool (decide (p.num<0)))).setCell ⟨w.heap.size+1,1,none⟩ (.slice C1 (len p.num.natAbs) j1)).setCell ⟨w.heap.size+1,2,none⟩ (.slice C2 (len p.den) j2)).setCell ⟨w.heap.size+1,3,none⟩ (.bool (decide (p.num<0)))).setCell ⟨w.heap.size+1,4,none⟩ (.slice C1 (len p.num.natAbs) j1)).setCell ⟨w.heap.size+1,5,none⟩ (.slice C2 (len p.den) j2)))
 obtain ⟨E_ue,-,LV,BL⟩:=AG' DR hw
 have FE:=hid (LV.rbox FV)
 replace FB:=hid (BL _ _ (by omega) FB)
 replace E_ue:=hid E_ue
 replace hw:=hid hw
 clear DR FV LV BL
 go_wp2_with fail
 rw [←hw.out]
 obtain ⟨r0,r1,r2,r3,r4,r5⟩:=Ae' E_ue.out
 refine bP (v:=.agg #[.bool (decide (p.num<0)),.slice C1 (len p.num.natAbs) j1,.slice C2 (len p.den) j2,.bool (decide (p.num<0)),.slice C1 (len p.num.natAbs) j1,.slice C2 (len p.den) j2]) ?_ rfl ⟨_,rfl,FE.out,FB.out⟩
 simp [results,Tryz.results40,go_sem,r0,r1,r2,r3,r4,r5]
theorem FG {w:World} {vx vy:Value} {a b c d l h:Rat} (el:a+c=l) (eh:b+d=h) (hx:Aw w vx a b) (hy:Aw w vy c d) (sa:Aa' a≤16777216) (sb:Aa' b≤16777216) (sc:Aa' c≤16777216) (sd:Aa' d≤16777216) :
   Calls Tryz.prog 41 #[vx,vy] w (Cf' w l h):=by
 have ta:Aa' a≤268435456:=by omega
 have tb:Aa' b≤268435456:=by omega
 have tc:Aa' c≤268435456:=by omega
 have td:Aa' d≤268435456:=by omega
 replace ta:=hid ta
 replace tb:=hid tb
 replace tc:=hid tc
 replace td:=hid td
 clear sa sb sc sd
 replace el:=hid el
 replace eh:=hid eh
 obtain ⟨C1,j1,C2,j2,C3,j3,C4,j4,rfl,hxl,hxh⟩:=id hx.opened
 replace hx:=hid hx
 replace hxl:=hid hxl
 replace hxh:=hid hxh
 obtain ⟨C5,j5,C6,j6,C7,j7,C8,j8,rfl,hyl,hyh⟩:=id hy.opened
 replace hy:=hid hy
 replace hyl:=hid hyl
 replace hyh:=hid hyh
 obtain ⟨w1,hw1⟩:=eX ((((w.alloc (.cells #[.bool (decide (a.num<0)),.slice C1 (len a.num.natAbs) j1,.slice C2 (len a.den) j2,.bool (decide (b.num<0)),.slice C3 (len b.num.natAbs) j3,.slice C4 (len b.den) j4] 41)).alloc (.cells #[.bool (decide (c.num<0)),.slice C5 (len c.num.natAbs) j5,.slice C6 (len c.den) j6,.bool (decide (d.num<0)),.slice C7 (len d.num.natAbs) j7,.slice C8 (len d.den) j8] 41)).alloc (.cells #[.bool false,.slice none 0 0,.slice none 0 0,.bool false,.slice none 0 0,.slice none 0 0] 41)))
 obtain ⟨b1,g1,g2,g3⟩:=AK' hw1
 replace g1:=hid g1
 replace g2:=hid g2
 replace g3:=hid g3
 replace b1:=hid b1
 go_enter Tryz.func41,Tryz.ntmps41
 go_upto_region 1 with fail
 rw [←hw1]
 clear hw1
 go_wp2_with fail
 have HSZa:Hid ((w.heap.size+2)≤w1.heap.size):=hid (by have:=at_lt (Ad' g3.out (Below.refl _ w1));omega)
 have hg:w1.heap[w.heap.size]?=some (.cells #[.bool (decide (a.num<0)),.slice C1 (len a.num.natAbs) j1,.slice C2 (len a.den) j2,.bool (decide (b.num<0)),.slice C3 (len b.num.natAbs) j3,.slice C4 (len b.den) j4] 41 (0,0)):=((Below.refl _ w1).block _ (gE.1 g1.out).1).trans g1.out
 obtain ⟨z_x_0,z_x_1,z_x_2,z_x_3,z_x_4,z_x_5⟩:=Ae' hg
 clear hg
 have hlta_x:w.heap.size<(w.heap.size+2):=by omega
 have hg:w1.heap[w.heap.size+1]?=some (.cells #[.bool (decide (c.num<0)),.slice C5 (len c.num.natAbs) j5,.slice C6 (len c.den) j6,.bool (decide (d.num<0)),.slice C7 (len d.num.natAbs) j7,.slice C8 (len d.den) j8] 41 (0,0)):=((Below.refl _ w1).block _ (gE.1 g2.out).1).trans g2.out
 obtain ⟨z_y_0,z_y_1,z_y_2,z_y_3,z_y_4,z_y_5⟩:=Ae' hg
 clear hg
 have hlta_y:w.heap.size+1<(w.heap.size+2):=by omega
 have H0:=Af.start w1 (w.heap.size+2)
 have H0':=H0
 unfold Af at H0'
 refine wp_region_held_drew (S:=(fun w'=>(∀ b o,b<(w.heap.size+2)→w'.cell? ⟨b,o,none⟩=w1.cell? ⟨b,o,none⟩)∧Below ((w.heap.size+2)) w1 w'∧Aj w1 w')) (by kernel_rfl) ?_ (fun hHeld=>?_)
 · (try dsimp only)
   exact H0'
 obtain ⟨w2,hw2⟩:=eX w1.drew
 have b2:Hid (Below w1.heap.size w1 w2):=by rw [hw2];exact ⟨rfl,rfl,rfl,nL _,fun _ _=>rfl⟩
 rw [←hw2] at hHeld H0 ⊢
 clear hw2 H0'
 refine tk (i:=0) (h:=?_)
 try simp only [Act.put,lt,ly,lu]
 refine tk (i:=1) (h:=?_)
 try simp only [Act.put,lt,ly,lu]
 refine tk (i:=2) (h:=?_)
 try simp only [Act.put,lt,ly,lu]
 refine tk (i:=3) (h:=?_)
 try simp only [Act.put,lt,ly,lu]
 refine tk (i:=5) (h:=?_)
 try simp only [Act.put,lt,ly,lu]
 refine tk (i:=6) (h:=?_)
 try simp only [Act.put,lt,ly,lu]
 refine tk (i:=7) (h:=?_)
 try simp only [Act.put,lt,ly,lu]
 refine tk (i:=8) (h:=?_)
 try simp only [Act.put,lt,ly,lu]
 refine rd (i:=4) (h:=fun K hK=>?_);go_simp;go_at_call 37
 refine (C4' el.out (hxl.out.keep (bS b1.out b2.out)) (hyl.out.keep (bS b1.out b2.out)) ta.out tc.out).mono ?_
 rintro e w3 ⟨v3,rfl,hv3,b3⟩
 obtain ⟨C9,j9,C10,j10,rfl,-,-⟩:=id hv3.opened
 replace hv3:=hid hv3
 replace b3:=hid b3
 have hk3:=AZ' H0 HSZa b3.out;clear hHeld H0
 refine hK.out _ _ (by (try dsimp only);with_reducible exact hun hk3) (fun hHeld=>?_)
 clear hK K;try simp only [Act.put,lt,ly,lu]
 refine rd (i:=9) (h:=fun K hK=>?_);go_simp;go_at_call 37
 refine (C4' eh.out (hxh.out.keep (bS (bS b1.out b2.out) b3.out)) (hyh.out.keep (bS (bS b1.out b2.out) b3.out)) tb.out td.out).mono ?_
 rintro e w4 ⟨v4,rfl,hv4,b4⟩
 obtain ⟨C11,j11,C12,j12,rfl,-,-⟩:=id hv4.opened
 replace hv4:=hid hv4
 replace b4:=hid b4
 have hk4:=AZ' hk3 HSZa b4.out;clear hHeld hk3
 refine hK.out _ _ (by (try dsimp only);with_reducible exact hun hk4) (fun hHeld=>?_)
 clear hK K;try simp only [Act.put,lt,ly,lu]
 refine tk (i:=10) (h:=?_)
 try simp only [Act.put,lt,ly,lu]
 have Dq12:=(Ad' g3.out (bS (bS b2.out b3.out) b4.out))
 refine rd (i:=11) (h:=fun K hK=>?_)
 have q0:w4.cell? ⟨w.heap.size+2,0,none⟩=some (.bool false):=cR _ _ _ _ _ _ Dq12
 have F0:w4.frozen? ⟨w.heap.size+2,0,none⟩=false:=fR w4 (w.heap.size+2) 0 _ _ Dq12
 have q1:w4.cell? ⟨w.heap.size+2,1,none⟩=some (.slice none 0 0):=cR _ _ _ _ _ _ Dq12
 have F1:w4.frozen? ⟨w.heap.size+2,1,none⟩=false:=fR w4 (w.heap.size+2) 1 _ _ Dq12
 have q2:w4.cell? ⟨w.heap.size+2,2,none⟩=some (.slice none 0 0):=cR _ _ _ _ _ _ Dq12
 have F2:w4.frozen? ⟨w.heap.size+2,2,none⟩=false:=fR w4 (w.heap.size+2) 2 _ _ Dq12
 have q3:w4.cell? ⟨w.heap.size+2,3,none⟩=some (.bool false):=cR _ _ _ _ _ _ Dq12
 have F3:w4.frozen? ⟨w.heap.size+2,3,none⟩=false:=fR w4 (w.heap.size+2) 3 _ _ Dq12
 have q4:w4.cell? ⟨w.heap.size+2,4,none⟩=some (.slice none 0 0):=cR _ _ _ _ _ _ Dq12
 have F4:w4.frozen? ⟨w.heap.size+2,4,none⟩=false:=fR w4 (w.heap.size+2) 4 _ _ Dq12
 have q5:w4.cell? ⟨w.heap.size+2,5,none⟩=some (.slice none 0 0):=cR _ _ _ _ _ _ Dq12
 have F5:w4.frozen? ⟨w.heap.size+2,5,none⟩=false:=fR w4 (w.heap.size+2) 5 _ _ Dq12
 replace Dq12:=hid Dq12
 go_simp
 clear q0 F0 q1 F1 q2 F2 q3 F3 q4 F4 q5 F5
 have FB:=hid (bS (bS (bS b1.out b2.out) b3.out) b4.out)
 have FV:=hid (Ah'.pair (hv3.out.keep b4.out) hv4.out)
 obtain ⟨ue,hw⟩:=eX (((((((w4.setCell ⟨w.heap.size+2,0,none⟩ (.bool (decide (l.num<0)))).setCell ⟨w.heap.size+2,1,none⟩ (.slice C9 (len l.num.natAbs) j9)).setCell ⟨w.heap.size+2,2,none⟩ (.slice C10 (len l.den) j10)).setCell ⟨w.heap.size+2,3,none⟩ (.bool (decide (h.num<0)))).setCell ⟨w.heap.size+2,4,none⟩ (.slice C11 (len h.num.natAbs) j11)).setCell ⟨w.heap.size+2,5,none⟩ (.slice C12 (len h.den) j12)))
 obtain ⟨E_ue,OT,LV,BL⟩:=AG' Dq12.out hw
 rw [←hw]
 clear hw
 replace E_ue:=hid E_ue
 have FE:=hid (LV.rbox FV.out)
 replace FB:=hid (BL _ _ (by omega) FB.out)
 have HKE:=hk4
 refine hK.out _ _ ?_ (fun hHeld2=>?_)
 · (try dsimp only)
   exact ⟨fun b o hb=>(Ao (BL (w.heap.size+2) _ (by omega) hk4.2.1)) b o hb,BL (w.heap.size+2) _ (by omega) hk4.2.1,C5' hk4.2.2 LV⟩
 clear hK K hHeld OT LV BL HKE
 try simp only [Act.put,lt,ly,lu]
 have hHeld:=hHeld2
 clear hHeld2
 refine wpAnyH_done (by kernel_rfl) ?_ _
 clear hHeld
 obtain ⟨r0,r1,r2,r3,r4,r5⟩:=Ae' E_ue.out
 go_wp2_with fail
 refine bP (v:=.agg #[.bool (decide (l.num<0)),.slice C9 (len l.num.natAbs) j9,.slice C10 (len l.den) j10,.bool (decide (h.num<0)),.slice C11 (len h.num.natAbs) j11,.slice C12 (len h.den) j12]) ?_ rfl ⟨_,rfl,FE.out,FB.out⟩
 simp [results,Tryz.results41,go_sem,r0,r1,r2,r3,r4,r5]
theorem Fl {w:World} {vx vy:Value} {a b c d l h:Rat} (el:(if a≤c then a else c)=l) (eh:(if d≤b then b else d)=h) (hx:Aw w vx a b) (hy:Aw w vy c d) (sa:Aa' a≤16777216) (sb:Aa' b≤16777216) (sc:Aa' c≤16777216) (sd:Aa' d≤16777216) :
   Calls Tryz.prog 43 #[vx,vy] w (Cf' w l h):=by
 replace el:=hid el
 replace eh:=hid eh
 replace sa:=hid sa
 replace sb:=hid sb
 replace sc:=hid sc
 replace sd:=hid sd
 obtain ⟨C1,j1,C2,j2,C3,j3,C4,j4,rfl,hxl,hxh⟩:=id hx.opened
 replace hx:=hid hx
 replace hxl:=hid hxl
 replace hxh:=hid hxh
 obtain ⟨C5,j5,C6,j6,C7,j7,C8,j8,rfl,hyl,hyh⟩:=id hy.opened
 replace hy:=hid hy
 replace hyl:=hid hyl
 replace hyh:=hid hyh
 obtain ⟨w1,hw1⟩:=eX ((((w.alloc (.cells #[.bool (decide (a.num<0)),.slice C1 (len a.num.natAbs) j1,.slice C2 (len a.den) j2,.bool (decide (b.num<0)),.slice C3 (len b.num.natAbs) j3,.slice C4 (len b.den) j4] 41)).alloc (.cells #[.bool (decide (c.num<0)),.slice C5 (len c.num.natAbs) j5,.slice C6 (len c.den) j6,.bool (decide (d.num<0)),.slice C7 (len d.num.natAbs) j7,.slice C8 (len d.den) j8] 41)).alloc (.cells #[.bool false,.slice none 0 0,.slice none 0 0,.bool false,.slice none 0 0,.slice none 0 0] 41)))
 obtain ⟨b1,g1,g2,g3⟩:=AK' hw1
 replace g1:=hid g1
 replace g2:=hid g2
 replace g3:=hid g3
 replace b1:=hid b1
 go_enter Tryz.func43,Tryz.ntmps43
 go_upto_region 1 with fail
 rw [←hw1]
 clear hw1
 go_wp2_with fail
 have HSZa:Hid ((w.heap.size+2)≤w1.heap.size):=hid (by have:=at_lt (Ad' g3.out (Below.refl _ w1));omega)
 have hg:w1.heap[w.heap.size]?=some (.cells #[.bool (decide (a.num<0)),.slice C1 (len a.num.natAbs) j1,.slice C2 (len a.den) j2,.bool (decide (b.num<0)),.slice C3 (len b.num.natAbs) j3,.slice C4 (len b.den) j4] 41 (0,0)):=((Below.refl _ w1).block _ (gE.1 g1.out).1).trans g1.out
 obtain ⟨z_x_0,z_x_1,z_x_2,z_x_3,z_x_4,z_x_5⟩:=Ae' hg
 clear hg
 have hlta_x:w.heap.size<(w.heap.size+2):=by omega
 have hg:w1.heap[w.heap.size+1]?=some (.cells #[.bool (decide (c.num<0)),.slice C5 (len c.num.natAbs) j5,.slice C6 (len c.den) j6,.bool (decide (d.num<0)),.slice C7 (len d.num.natAbs) j7,.slice C8 (len d.den) j8] 41 (0,0)):=((Below.refl _ w1).block _ (gE.1 g2.out).1).trans g2.out
 obtain ⟨z_y_0,z_y_1,z_y_2,z_y_3,z_y_4,z_y_5⟩:=Ae' hg
 clear hg
 have hlta_y:w.heap.size+1<(w.heap.size+2):=by omega
 have H0:=Af.start w1 (w.heap.size+2)
 have H0':=H0
 unfold Af at H0'
 refine wp_region_held_drew (S:=(fun w'=>(∀ b o,b<(w.heap.size+2)→w'.cell? ⟨b,o,none⟩=w1.cell? ⟨b,o,none⟩)∧Below ((w.heap.size+2)) w1 w'∧Aj w1 w')) (by kernel_rfl) ?_ (fun hHeld=>?_)
 · (try dsimp only)
   exact H0'
 obtain ⟨w2,hw2⟩:=eX w1.drew
 have b2:Hid (Below w1.heap.size w1 w2):=by rw [hw2];exact ⟨rfl,rfl,rfl,nL _,fun _ _=>rfl⟩
 rw [←hw2] at hHeld H0 ⊢
 clear hw2 H0'
 refine tk (i:=0) (h:=?_)
 try simp only [Act.put,lt,ly,lu]
 refine tk (i:=1) (h:=?_)
 try simp only [Act.put,lt,ly,lu]
 refine tk (i:=2) (h:=?_)
 try simp only [Act.put,lt,ly,lu]
 refine tk (i:=3) (h:=?_)
 try simp only [Act.put,lt,ly,lu]
 refine tk (i:=5) (h:=?_)
 try simp only [Act.put,lt,ly,lu]
 refine tk (i:=6) (h:=?_)
 try simp only [Act.put,lt,ly,lu]
 refine tk (i:=7) (h:=?_)
 try simp only [Act.put,lt,ly,lu]
 refine tk (i:=8) (h:=?_)
 try simp only [Act.put,lt,ly,lu]
 refine rd (i:=4) (h:=fun K hK=>?_);go_simp;go_at_call 93
 refine (Fk el.out (hxl.out.keep (bS b1.out b2.out)) (hyl.out.keep (bS b1.out b2.out)) sa.out sc.out).mono ?_
 rintro e w3 ⟨v3,rfl,hv3,b3⟩
 obtain ⟨C9,j9,C10,j10,rfl,-,-⟩:=id hv3.opened
 replace hv3:=hid hv3
 replace b3:=hid b3
 have hk3:=AZ' H0 HSZa b3.out;clear hHeld H0
 refine hK.out _ _ (by (try dsimp only);with_reducible exact hun hk3) (fun hHeld=>?_)
 clear hK K;try simp only [Act.put,lt,ly,lu]
 refine rd (i:=9) (h:=fun K hK=>?_);go_simp;go_at_call 94
 refine (Fk' eh.out (hxh.out.keep (bS (bS b1.out b2.out) b3.out)) (hyh.out.keep (bS (bS b1.out b2.out) b3.out)) sb.out sd.out).mono ?_
 rintro e w4 ⟨v4,rfl,hv4,b4⟩
 obtain ⟨C11,j11,C12,j12,rfl,-,-⟩:=id hv4.opened
 replace hv4:=hid hv4
 replace b4:=hid b4
 have hk4:=AZ' hk3 HSZa b4.out;clear hHeld hk3
 refine hK.out _ _ (by (try dsimp only);with_reducible exact hun hk4) (fun hHeld=>?_)
 clear hK K;try simp only [Act.put,lt,ly,lu]
 refine tk (i:=10) (h:=?_)
 try simp only [Act.put,lt,ly,lu]
 have Dq24:=(Ad' g3.out (bS (bS b2.out b3.out) b4.out))
 refine rd (i:=11) (h:=fun K hK=>?_)
 have q0:w4.cell? ⟨w.heap.size+2,0,none⟩=some (.bool false):=cR _ _ _ _ _ _ Dq24
 have F0:w4.frozen? ⟨w.heap.size+2,0,none⟩=false:=fR w4 (w.heap.size+2) 0 _ _ Dq24
 have q1:w4.cell? ⟨w.heap.size+2,1,none⟩=some (.slice none 0 0):=cR _ _ _ _ _ _ Dq24
 have F1:w4.frozen? ⟨w.heap.size+2,1,none⟩=false:=fR w4 (w.heap.size+2) 1 _ _ Dq24
 have q2:w4.cell? ⟨w.heap.size+2,2,none⟩=some (.slice none 0 0):=cR _ _ _ _ _ _ Dq24
 have F2:w4.frozen? ⟨w.heap.size+2,2,none⟩=false:=fR w4 (w.heap.size+2) 2 _ _ Dq24
 have q3:w4.cell? ⟨w.heap.size+2,3,none⟩=some (.bool false):=cR _ _ _ _ _ _ Dq24
 have F3:w4.frozen? ⟨w.heap.size+2,3,none⟩=false:=fR w4 (w.heap.size+2) 3 _ _ Dq24
 have q4:w4.cell? ⟨w.heap.size+2,4,none⟩=some (.slice none 0 0):=cR _ _ _ _ _ _ Dq24
 have F4:w4.frozen? ⟨w.heap.size+2,4,none⟩=false:=fR w4 (w.heap.size+2) 4 _ _ Dq24
 have q5:w4.cell? ⟨w.heap.size+2,5,none⟩=some (.slice none 0 0):=cR _ _ _ _ _ _ Dq24
 have F5:w4.frozen? ⟨w.heap.size+2,5,none⟩=false:=fR w4 (w.heap.size+2) 5 _ _ Dq24
 replace Dq24:=hid Dq24
 go_simp
 clear q0 F0 q1 F1 q2 F2 q3 F3 q4 F4 q5 F5
 have FB:=hid (bS (bS (bS b1.out b2.out) b3.out) b4.out)
 have FV:=hid (Ah'.pair (hv3.out.keep b4.out) hv4.out)
 obtain ⟨ue,hw⟩:=eX (((((((w4.setCell ⟨w.heap.size+2,0,none⟩ (.bool (decide (l.num<0)))).setCell ⟨w.heap.size+2,1,none⟩ (.slice C9 (len l.num.natAbs) j9)).setCell ⟨w.heap.size+2,2,none⟩ (.slice C10 (len l.den) j10)).setCell ⟨w.heap.size+2,3,none⟩ (.bool (decide (h.num<0)))).setCell ⟨w.heap.size+2,4,none⟩ (.slice C11 (len h.num.natAbs) j11)).setCell ⟨w.heap.size+2,5,none⟩ (.slice C12 (len h.den) j12)))
 obtain ⟨E_ue,OT,LV,BL⟩:=AG' Dq24.out hw
 rw [←hw]
 clear hw
 replace E_ue:=hid E_ue
 have FE:=hid (LV.rbox FV.out)
 replace FB:=hid (BL _ _ (by omega) FB.out)
 have HKE:=hk4
 refine hK.out _ _ ?_ (fun hHeld2=>?_)
 · (try dsimp only)
   exact ⟨fun b o hb=>(Ao (BL (w.heap.size+2) _ (by omega) hk4.2.1)) b o hb,BL (w.heap.size+2) _ (by omega) hk4.2.1,C5' hk4.2.2 LV⟩
 clear hK K hHeld OT LV BL HKE
 try simp only [Act.put,lt,ly,lu]
 have hHeld:=hHeld2
 clear hHeld2
 refine wpAnyH_done (by kernel_rfl) ?_ _
 clear hHeld
 obtain ⟨r0,r1,r2,r3,r4,r5⟩:=Ae' E_ue.out
 go_wp2_with fail
 refine bP (v:=.agg #[.bool (decide (l.num<0)),.slice C9 (len l.num.natAbs) j9,.slice C10 (len l.den) j10,.bool (decide (h.num<0)),.slice C11 (len h.num.natAbs) j11,.slice C12 (len h.den) j12]) ?_ rfl ⟨_,rfl,FE.out,FB.out⟩
 simp [results,Tryz.results43,go_sem,r0,r1,r2,r3,r4,r5]
end Go.Proofs.YtbigkkjnhcpgiaaGreatDoor.Rf
namespace Go.Proofs.YtbigkkjnhcpgiaaGreatDoor
open Lib (hid)
open Go.RowKit
open Vx
theorem Gu' {w:World} {v0:Value} {v1:Value} {a b:Rat} {c d:Rat} (hv:Ao' w v0 a b) (hu:Ao' w v1 c d) (sa:Aa' a≤34359738368) (sb:Aa' b≤34359738368) (sc:Aa' c≤34359738368) (sd:Aa' d≤34359738368) :
   Calls Tryz.prog 84 #[v0,v1] w (Bk' w (a+c) (b+d)):=by
 obtain ⟨A1,c1,A2,c2,A3,c3,A4,c4,rfl,ha,hb⟩:=hv.opened
 obtain ⟨A5,c5,A6,c6,A7,c7,A8,c8,rfl,hc,hd⟩:=hu.opened
 obtain ⟨wB,hwB⟩:=eX (((w.alloc (.cells #[.bool (decide (a.num<0)),.slice A1 (len a.num.natAbs) c1,.slice A2 (len (below a.den)) c2,.bool (decide (b.num<0)),.slice A3 (len b.num.natAbs) c3,.slice A4 (len (below b.den)) c4] 35)).alloc (.cells #[.bool (decide (c.num<0)),.slice A5 (len c.num.natAbs) c5,.slice A6 (len (below c.den)) c6,.bool (decide (d.num<0)),.slice A7 (len d.num.natAbs) c7,.slice A8 (len (below d.den)) c8] 35)).alloc (.cells #[.bool false,.slice none 0 0,.slice none 0 0,.bool false,.slice none 0 0,.slice none 0 0] 35))
 obtain ⟨b0,g0,g1,g2⟩:=AK' hwB
 obtain ⟨k0,k1,k2,k3,k4,k5⟩:=Ae' g0
 obtain ⟨k6,k7,k8,k9,k10,k11⟩:=Ae' g1
 have HK0:=hid (Ai'.start (T:=35) rfl BQ' g2)
 have HB0:=hid b0
 have hlt1:w.heap.size<w.heap.size+2:=by omega
 have hlt2:w.heap.size+1<w.heap.size+2:=by omega
 clear g0 g1 g2 b0
 obtain ⟨qq,eq⟩:=eX (a+c:Rat)
 obtain ⟨rr,er⟩:=eX (b+d:Rat)
 have HX:=fun (w':World) (hk:Am' wB (w.heap.size+2) wB w')=>hid (CV' (hk.stay.num (ha.keep HB0.out)) (hk.stay.num (hc.keep HB0.out)) sa sc)
 have HY:=fun (w':World) (hk:Am' wB (w.heap.size+2) wB w')=>hid (CV' (hk.stay.num (hb.keep HB0.out)) (hk.stay.num (hd.keep HB0.out)) sb sd)
 rw [←eq] at HX ⊢
 rw [←er] at HY ⊢
 have H0:=HK0.out.begin6
 have H0':=H0
 unfold Am' at H0'
 clear eq er hv ha hb hu hc hd sa sb sc sd
 go_enter Tryz.func84,Tryz.ntmps84
 go_upto_region 1 with fail
 rw [←hwB]
 clear hwB
 go_wp2_with fail
 go_region_held3 (fun w'=>(∀ b o,b<w.heap.size+2→w'.cell? ⟨b,o,none⟩=wB.cell? ⟨b,o,none⟩)∧w'.cell? ⟨w.heap.size+2,0,none⟩=some (cur w' ⟨w.heap.size+2,0,none⟩)∧w'.cell? ⟨w.heap.size+2,1,none⟩=some (cur w' ⟨w.heap.size+2,1,none⟩)∧w'.cell? ⟨w.heap.size+2,2,none⟩=some (cur w' ⟨w.heap.size+2,2,none⟩)∧w'.cell? ⟨w.heap.size+2,3,none⟩=some (cur w' ⟨w.heap.size+2,3,none⟩)∧w'.cell? ⟨w.heap.size+2,4,none⟩=some (cur w' ⟨w.heap.size+2,4,none⟩)∧w'.cell? ⟨w.heap.size+2,5,none⟩=some (cur w' ⟨w.heap.size+2,5,none⟩)∧w'.frozen? ⟨w.heap.size+2,0,none⟩=false∧w'.frozen? ⟨w.heap.size+2,1,none⟩=false∧w'.frozen? ⟨w.heap.size+2,2,none⟩=false∧w'.frozen? ⟨w.heap.size+2,3,none⟩=false∧w'.frozen? ⟨w.heap.size+2,4,none⟩=false∧w'.frozen? ⟨w.heap.size+2,5,none⟩=false∧Ai' 6 35 wB (w.heap.size+2) w'∧Aj wB w')
   (first | with_reducible exact H0' | with_reducible exact hk1' | with_reducible exact hk2' | exact hk2.store)
   (first | (go_at_call 29;refine ((HY _ hk1).out).mono ?_;rintro e w2 ⟨v2,rfl,hv2,hbl2⟩;obtain ⟨C3,j3,C4,j4,rfl,-,-⟩:=id hv2.opened;have hk2:=hk1.call hbl2;have hk2':=hk2;unfold Am' at hk2') | (go_at_call 29;refine ((HX _ H0).out).mono ?_;rintro e w1 ⟨v1,rfl,hv1,hbl1⟩;obtain ⟨C1,j1,C2,j2,rfl,-,-⟩:=id hv1.opened;have hk1:=H0.call hbl1;have hk1':=hk1;unfold Am' at hk1'))
 rename_i hHl
 clear hHl
 have hv1':=hv1.keep hbl2
 have HD:=hk2.done (p:=qq) (q:=rr) (s1:=decide (qq.num<0)) (A1:=C1) (n1:=len qq.num.natAbs) (c1:=j1) (A2:=C2) (n2:=len (below qq.den)) (c2:=j2) (s2:=decide (rr.num<0)) (A3:=C3) (n3:=len rr.num.natAbs) (c3:=j3) (A4:=C4) (n4:=len (below rr.den)) (c4:=j4) (hv1') (hv2)
 obtain ⟨d1,d2,d3⟩:=HD
 obtain ⟨r0,r1,r2,r3,r4,r5⟩:=Ae' d3
 have HD:=hid (And.intro d1 d2)
 clear d1 d2 d3
 go_wp2_with fail
 refine bP (v:=.agg #[.bool (decide (qq.num<0)),.slice (C1) (len qq.num.natAbs) (j1),.slice (C2) (len (below qq.den)) (j2),.bool (decide (rr.num<0)),.slice (C3) (len rr.num.natAbs) (j3),.slice (C4) (len (below rr.den)) (j4)]) ?_ rfl ⟨_,rfl,HD.out.1,Ae HB0.out (by omega) HD.out.2⟩
 simp [results,Tryz.results84,go_sem,r0,r1,r2,r3,r4,r5]
theorem Fl' {w:World} {v:Value} {a b:Rat} (hv:Ao' w v a b) (sa:Aa' a≤34359738368) (sb:Aa' b≤34359738368) :
   Calls Tryz.prog 26 #[v] w (Ar' w (b - a)):=by
 obtain ⟨A1,c1,A2,c2,A3,c3,A4,c4,rfl,ha,hb⟩:=hv.opened
 obtain ⟨wB,hwB⟩:=eX ((w.alloc (.cells #[.bool (decide (a.num<0)),.slice A1 (len a.num.natAbs) c1,.slice A2 (len (below a.den)) c2,.bool (decide (b.num<0)),.slice A3 (len b.num.natAbs) c3,.slice A4 (len (below b.den)) c4] 35)).alloc (.cells #[.bool false,.slice none 0 0,.slice none 0 0] 33))
 obtain ⟨b0,g0,g1⟩:=AA' hwB
 obtain ⟨k0,k1,k2,k3,k4,k5⟩:=Ae' g0
 have HK0:=hid (Ai'.start (T:=33) rfl (Au _ _ _ _ _ _ _) g1)
 have HB0:=hid b0
 have hlt1:w.heap.size<w.heap.size+1:=by omega
 clear g0 g1 b0
 obtain ⟨q,hq⟩:=eX (b - a:Rat)
 have HX:=hid (Gf (hb.keep HB0.out) (ha.keep HB0.out) sb sa)
 rw [←hq] at HX ⊢
 clear hq sa sb hv ha hb
 go_enter Tryz.func26,Tryz.ntmps26
 go_upto_region 1 with fail
 rw [←hwB]
 clear hwB
 go_wp2_with fail
 refine (HX.out).mono ?_
 rintro e w5 ⟨v5,rfl,hv5,b5⟩
 obtain ⟨C1,j1,C2,j2,rfl,-,-⟩:=hv5.opened
 have hk:=(HK0.out.call b5).held (Aj.refl _)
 clear b5 HX
 obtain ⟨-,c0,c1',c2',f0,f1,f2,-⟩:=id hk
 have HD:=hk.done (q:=q) (b:=decide (q.num<0)) (A1:=C1) (n1:=len q.num.natAbs) (c1:=j1) (A2:=C2) (n2:=len (below q.den)) (c2:=j2) (hv5)
 obtain ⟨d1,d2,d3⟩:=HD
 obtain ⟨r0,r1,r2⟩:=Ab' d3
 have HD:=hid (And.intro d1 d2)
 clear d1 d2 d3
 go_wp2_with fail
 refine bP (v:=.agg #[.bool (decide (q.num<0)),.slice (C1) (len q.num.natAbs) (j1),.slice (C2) (len (below q.den)) (j2)]) ?_ rfl ⟨_,rfl,HD.out.1,Ae HB0.out (by omega) HD.out.2⟩
 simp [results,Tryz.results26,go_sem,r0,r1,r2]
end Go.Proofs.YtbigkkjnhcpgiaaGreatDoor
namespace Go.Proofs.YtbigkkjnhcpgiaaGreatDoor.Rf
open Lib (hid)
open Go.RowKit
open Rx
open Vx (Aa' Al' Am)
open List renaming getElem?_toArray → lg, getElem?_cons_zero → lz, getElem?_cons_succ → ls, setIfInBounds_toArray → lt, set_cons_zero → ly, set_cons_succ → lu
theorem DE' {w:World} {vx vy:Value} {a b:Rat} (hx:Ao' w vx a b) (hy:Aw w vy a b) (sa:Aa' a≤4100) (sb:Aa' b≤4100) (hT:TabAt 0 Lib.deBruijn64tab w) :
   Calls Tryz.prog 11 #[vx,vy] w (At' w true):=by
 have s1:Aa' a≤536870912:=by omega
 have s2:Aa' b≤536870912:=by omega
 replace s1:=hid s1
 replace s2:=hid s2
 replace sa:=hid sa
 replace sb:=hid sb
 replace hT:=hid hT
 obtain ⟨C1,j1,C2,j2,C3,j3,C4,j4,rfl,hxl,hxh⟩:=id hx.opened
 replace hx:=hid hx
 replace hxl:=hid hxl
 replace hxh:=hid hxh
 obtain ⟨C5,j5,C6,j6,C7,j7,C8,j8,rfl,hyl,hyh⟩:=id hy.opened
 replace hy:=hid hy
 replace hyl:=hid hyl
 replace hyh:=hid hyh
 obtain ⟨w1,hw1⟩:=eX (((w.alloc (.cells #[.bool (decide (a.num<0)),.slice C1 (Vx.len a.num.natAbs) j1,.slice C2 (Vx.len (below a.den)) j2,.bool (decide (b.num<0)),.slice C3 (Vx.len b.num.natAbs) j3,.slice C4 (Vx.len (below b.den)) j4] 35)).alloc (.cells #[.bool (decide (a.num<0)),.slice C5 (len a.num.natAbs) j5,.slice C6 (len a.den) j6,.bool (decide (b.num<0)),.slice C7 (len b.num.natAbs) j7,.slice C8 (len b.den) j8] 41)))
 obtain ⟨b1,g1,g2⟩:=AA' hw1
 replace g1:=hid g1
 replace g2:=hid g2
 replace b1:=hid b1
 go_enter Tryz.func11,Tryz.ntmps11
 go_upto_region 1 with fail
 rw [←hw1]
 clear hw1
 go_wp2_with fail
 have HSZa:Hid ((w.heap.size+2)≤w1.heap.size):=hid (by have:=at_lt (Ad' g2.out (Below.refl _ w1));omega)
 have hg:w1.heap[w.heap.size]?=some (.cells #[.bool (decide (a.num<0)),.slice C1 (Vx.len a.num.natAbs) j1,.slice C2 (Vx.len (below a.den)) j2,.bool (decide (b.num<0)),.slice C3 (Vx.len b.num.natAbs) j3,.slice C4 (Vx.len (below b.den)) j4] 35 (0,0)):=((Below.refl _ w1).block _ (gE.1 g1.out).1).trans g1.out
 obtain ⟨z_x_0,z_x_1,z_x_2,z_x_3,z_x_4,z_x_5⟩:=Ae' hg
 clear hg
 have hlta_x:w.heap.size<(w.heap.size+2):=by omega
 have hg:w1.heap[w.heap.size+1]?=some (.cells #[.bool (decide (a.num<0)),.slice C5 (len a.num.natAbs) j5,.slice C6 (len a.den) j6,.bool (decide (b.num<0)),.slice C7 (len b.num.natAbs) j7,.slice C8 (len b.den) j8] 41 (0,0)):=((Below.refl _ w1).block _ (gE.1 g2.out).1).trans g2.out
 obtain ⟨z_y_0,z_y_1,z_y_2,z_y_3,z_y_4,z_y_5⟩:=Ae' hg
 clear hg
 have hlta_y:w.heap.size+1<(w.heap.size+2):=by omega
 have H0:=Af.start w1 (w.heap.size+2)
 have H0':=H0
 unfold Af at H0'
 refine wp_region_held_drew (S:=(fun w'=>(∀ b o,b<(w.heap.size+2)→w'.cell? ⟨b,o,none⟩=w1.cell? ⟨b,o,none⟩)∧Below ((w.heap.size+2)) w1 w'∧Aj w1 w')) (by kernel_rfl) ?_ (fun hHeld=>?_)
 · (try dsimp only)
   exact H0'
 obtain ⟨w2,hw2⟩:=eX w1.drew
 have b2:Hid (Below w1.heap.size w1 w2):=by rw [hw2];exact ⟨rfl,rfl,rfl,nL _,fun _ _=>rfl⟩
 rw [←hw2] at hHeld H0 ⊢
 clear hw2 H0'
 refine tk (i:=0) (h:=?_)
 try simp only [Act.put,lt,ly,lu]
 refine tk (i:=2) (h:=?_)
 try simp only [Act.put,lt,ly,lu]
 refine tk (i:=3) (h:=?_)
 try simp only [Act.put,lt,ly,lu]
 refine rd (i:=1) (h:=fun K hK=>?_);go_simp;go_at_call 21
 refine (Ck (hx.out.keep (bS b1.out b2.out)) (nT s1.out (by omega))).mono ?_
 rintro e w3 ⟨v3,rfl,hv3,b3⟩
 obtain ⟨C9,j9,C10,j10,rfl,-,-⟩:=id hv3.opened
 replace hv3:=hid hv3
 replace b3:=hid b3
 have hk3:=AZ' H0 HSZa b3.out;clear hHeld H0
 refine hK.out _ _ (by (try dsimp only);with_reducible exact hun hk3) (fun hHeld=>?_)
 clear hK K;try simp only [Act.put,lt,ly,lu]
 refine rd (i:=4) (h:=fun K hK=>?_);go_simp;go_at_call 39
 refine (Fg' hv3.out (hyl.out.keep (bS (bS b1.out b2.out) b3.out)) sa.out (Aq hT.out (bS (bS b1.out b2.out) b3.out))).mono ?_
 rintro e w4 ⟨rfl,b4⟩
 replace b4:=hid b4
 have hk4:=AZ' hk3 HSZa b4.out;clear hHeld hk3
 refine hK.out _ _ (by (try dsimp only);with_reducible exact hun hk4) (fun hHeld=>?_)
 clear hK K;try simp only [Act.put,lt,ly,lu]
 refine tk (i:=5) (h:=?_)
 try simp only [Act.put,lt,ly,lu]
 refine tk (i:=6) (h:=?_)
 try simp only [Act.put,lt,ly,lu]
 refine tk (i:=8) (h:=?_)
 try simp only [Act.put,lt,ly,lu]
 refine tk (i:=9) (h:=?_)
 try simp only [Act.put,lt,ly,lu]
 refine rd (i:=7) (h:=fun K hK=>?_);go_simp;go_at_call 22
 refine (Ck' (hx.out.keep (bS (bS (bS b1.out b2.out) b3.out) b4.out)) (nT s2.out (by omega))).mono ?_
 rintro e w5 ⟨v5,rfl,hv5,b5⟩
 obtain ⟨C11,j11,C12,j12,rfl,-,-⟩:=id hv5.opened
 replace hv5:=hid hv5
 replace b5:=hid b5
 have hk5:=AZ' hk4 HSZa b5.out;clear hHeld hk4
 refine hK.out _ _ (by (try dsimp only);with_reducible exact hun hk5) (fun hHeld=>?_)
 clear hK K;try simp only [Act.put,lt,ly,lu]
 refine rd (i:=10) (h:=fun K hK=>?_);go_simp;go_at_call 39
 refine (Fg' hv5.out (hyh.out.keep (bS (bS (bS (bS b1.out b2.out) b3.out) b4.out) b5.out)) sb.out (Aq hT.out (bS (bS (bS (bS b1.out b2.out) b3.out) b4.out) b5.out))).mono ?_
 rintro e w6 ⟨rfl,b6⟩
 replace b6:=hid b6
 have hk6:=AZ' hk5 HSZa b6.out;clear hHeld hk5
 refine hK.out _ _ (by (try dsimp only);with_reducible exact hun hk6) (fun hHeld=>?_)
 clear hK K;try simp only [Act.put,lt,ly,lu]
 refine tk (i:=11) (h:=?_)
 try simp only [Act.put,lt,ly,lu]
 refine tk (i:=12) (h:=?_)
 try simp only [Act.put,lt,ly,lu]
 have HE:=hid (bS (bS (bS (bS (bS b1.out b2.out) b3.out) b4.out) b5.out) b6.out)
 refine wpAnyH_done (by kernel_rfl) ?_ _
 clear hHeld
 go_wp2_with fail
 go_ret
 exact ⟨rfl,HE.out⟩
theorem CC' {w:World} {vx:Value} {a b:Rat} (ha:a=0) (hb:b=0) (hx:Ao' w vx a b) :
   Calls Tryz.prog 9 #[vx] w (At' w true):=by
 have ea:a.num.sign=0:=by rw [ha];rfl
 have eb:b.num.sign=0:=by rw [hb];rfl
 have s1:Aa' a≤3:=by rw [ha];decide +kernel
 have s2:Aa' b≤3:=by rw [hb];decide +kernel
 clear ha hb
 replace ea:=hid ea
 replace eb:=hid eb
 replace s1:=hid s1
 replace s2:=hid s2
 obtain ⟨C1,j1,C2,j2,C3,j3,C4,j4,rfl,hxl,hxh⟩:=id hx.opened
 replace hx:=hid hx
 replace hxl:=hid hxl
 replace hxh:=hid hxh
 obtain ⟨w1,hw1⟩:=eX ((w.alloc (.cells #[.bool (decide (a.num<0)),.slice C1 (Vx.len a.num.natAbs) j1,.slice C2 (Vx.len (below a.den)) j2,.bool (decide (b.num<0)),.slice C3 (Vx.len b.num.natAbs) j3,.slice C4 (Vx.len (below b.den)) j4] 35)))
 have b1:=Ag' w (.cells #[.bool (decide (a.num<0)),.slice C1 (Vx.len a.num.natAbs) j1,.slice C2 (Vx.len (below a.den)) j2,.bool (decide (b.num<0)),.slice C3 (Vx.len b.num.natAbs) j3,.slice C4 (Vx.len (below b.den)) j4] 35)
 have g1:=hA_ w (.cells #[.bool (decide (a.num<0)),.slice C1 (Vx.len a.num.natAbs) j1,.slice C2 (Vx.len (below a.den)) j2,.bool (decide (b.num<0)),.slice C3 (Vx.len b.num.natAbs) j3,.slice C4 (Vx.len (below b.den)) j4] 35)
 rw [←hw1] at b1 g1
 replace g1:=hid g1
 replace b1:=hid b1
 go_enter Tryz.func9,Tryz.ntmps9
 go_upto_region 1 with fail
 rw [←hw1]
 clear hw1
 have hg:w1.heap[w.heap.size]?=some (.cells #[.bool (decide (a.num<0)),.slice C1 (Vx.len a.num.natAbs) j1,.slice C2 (Vx.len (below a.den)) j2,.bool (decide (b.num<0)),.slice C3 (Vx.len b.num.natAbs) j3,.slice C4 (Vx.len (below b.den)) j4] 35 (0,0)):=((Below.refl _ w1).block _ (gE.1 g1.out).1).trans g1.out
 obtain ⟨z_x_0,z_x_1,z_x_2,z_x_3,z_x_4,z_x_5⟩:=Ae' hg
 clear hg
 have HX:=hid (Ck (hx.out.keep b1.out) (nT s1.out (by omega)))
 go_wp2_with fail
 refine (HX.out).mono ?_
 rintro e w2 ⟨v2,rfl,hv2,b2⟩
 obtain ⟨C5,j5,C6,j6,rfl,-,-⟩:=id hv2.opened
 replace hv2:=hid hv2
 replace b2:=hid b2
 clear HX
 clear z_x_0 z_x_1 z_x_2 z_x_3 z_x_4 z_x_5
 have HX:=hid (Fi' ea.out hv2.out)
 go_wp2_with fail
 refine (HX.out).mono ?_
 rintro e w3 ⟨rfl,b3⟩
 replace b3:=hid b3
 clear HX
 have hg:w3.heap[w.heap.size]?=some (.cells #[.bool (decide (a.num<0)),.slice C1 (Vx.len a.num.natAbs) j1,.slice C2 (Vx.len (below a.den)) j2,.bool (decide (b.num<0)),.slice C3 (Vx.len b.num.natAbs) j3,.slice C4 (Vx.len (below b.den)) j4] 35 (0,0)):=((bS b2.out b3.out).block _ (gE.1 g1.out).1).trans g1.out
 obtain ⟨z_x_0,z_x_1,z_x_2,z_x_3,z_x_4,z_x_5⟩:=Ae' hg
 clear hg
 have HX:=hid (Ck' (hx.out.keep (bS (bS b1.out b2.out) b3.out)) (nT s2.out (by omega)))
 go_wp2_with fail
 refine (HX.out).mono ?_
 rintro e w4 ⟨v4,rfl,hv4,b4⟩
 obtain ⟨C7,j7,C8,j8,rfl,-,-⟩:=id hv4.opened
 replace hv4:=hid hv4
 replace b4:=hid b4
 clear HX
 clear z_x_0 z_x_1 z_x_2 z_x_3 z_x_4 z_x_5
 have HX:=hid (Fi' eb.out hv4.out)
 go_wp2_with fail
 refine (HX.out).mono ?_
 rintro e w5 ⟨rfl,b5⟩
 replace b5:=hid b5
 clear HX
 have HE:=hid (bS (bS (bS (bS b1.out b2.out) b3.out) b4.out) b5.out)
 go_wp2_with fail
 go_ret
 exact ⟨rfl,HE.out⟩
theorem AI' {w u:World} {o:Obj} (h:u=w.alloc o):u.heap[w.heap.size]?=some o:=h ▸ hA_ w o
theorem AC {w u:World} {o:Obj} (h:u=w.alloc o):Below w.heap.size w u:=h ▸ Ag' w o
theorem D4' {w u:World} {o1 o2:Obj} (h:u=(w.alloc o1).alloc o2):Below w.heap.size w u∧u.heap[w.heap.size]?=some o1∧u.heap[w.heap.size+1]?=some o2:=h ▸ CV w o1 o2
end Go.Proofs.YtbigkkjnhcpgiaaGreatDoor.Rf
