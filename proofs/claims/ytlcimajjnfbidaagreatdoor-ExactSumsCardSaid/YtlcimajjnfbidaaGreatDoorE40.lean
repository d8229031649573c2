/-
  Contracts of the functions that the law calls, for every input (Te).
-/
import Derived.Test.YtlcimajjnfbidaaGreatDoorE00
import Derived.Test.YtlcimajjnfbidaaGreatDoorE39
set_option linter.all false
set_option maxRecDepth 100000
set_option maxHeartbeats 40000000
namespace Go.Proofs.YtlcimajjnfbidaaGreatDoor.Rf
open Lib (hid)
open Go.RowKit
open Rx
open Vx (siz siz_num siz_den)
open List renaming getElem?_toArray → lg, getElem?_cons_zero → lz, getElem?_cons_succ → ls, setIfInBounds_toArray → lt, set_cons_zero → ly, set_cons_succ → lu
theorem siz_ceil (x:Rat):siz (-(flr (-x)))≤siz x:=by
 have h1:=Vx.siz_neg (flr (-x))
 have h2:=siz_flr (-x)
 have h3:=Vx.siz_neg x
 omega
theorem cmpQ_le0 {x y:Rat}:cmpQ x y≤0↔x≤y:=by
 unfold cmpQ
 rcases Decidable.em (x<y) with h | h
 · rw [if_pos h];exact ⟨fun _=>Rat.le_of_lt h,fun _=>by decide⟩
 · rw [if_neg h]
   rcases Decidable.em (x=y) with k | k
   · rw [if_pos k];exact ⟨fun _=>k ▸ Rat.le_refl,fun _=>by decide⟩
   · rw [if_neg k];exact ⟨fun a=>absurd a (by decide),fun a=>absurd (Rat.le_antisymm a (Rat.not_lt.1 h)) k⟩
theorem cmpQ_ge0 {x y:Rat}:cmpQ x y≥0↔y≤x:=by
 unfold cmpQ
 rcases Decidable.em (x<y) with h | h
 · rw [if_pos h];exact ⟨fun a=>absurd a (by decide),fun a=>absurd h (Rat.not_lt.2 a)⟩
 · rw [if_neg h]
   exact ⟨fun _=>Rat.not_lt.1 h,fun _=>by split <;> decide⟩
theorem minR_any {w:World} {vx vy:Value} {p q r:Rat} (hr:(if p≤q then p else q)=r) (hx:IsRat w vx p) (hy:IsRat w vy q) (sp:siz p≤16777216) (sq:siz q≤16777216) :
   Calls Tryz.prog 72 #[vx,vy] w (RatRet w r):=by
 have tp:siz p≤268435456:=by omega
 have tq:siz q≤268435456:=by omega
 replace tp:=hid tp
 replace tq:=hid tq
 clear sp sq
 obtain ⟨c,ec⟩:=eY (cmpQ p q:Int)
 rcases Decidable.em (p≤q) with h | h
 · rw [if_pos h] at hr
   subst hr
   have hc:decide (c≤0)=true:=decide_eq_true (by rw [←ec];exact cmpQ_le0.2 h)
   replace ec:=hid ec
   clear h
   obtain ⟨C1,j1,C2,j2,rfl,-,-⟩:=id hx.opened
   replace hx:=hid hx
   obtain ⟨C3,j3,C4,j4,rfl,-,-⟩:=id hy.opened
   replace hy:=hid hy
   obtain ⟨w1,hw1⟩:=eX ((((w.alloc (.cells #[.bool (decide (p.num<0)),.slice C1 (len p.num.natAbs) j1,.slice C2 (len p.den) j2] 39)).alloc (.cells #[.bool (decide (q.num<0)),.slice C3 (len q.num.natAbs) j3,.slice C4 (len q.den) j4] 39)).alloc (.cells #[.bool false,.slice none 0 0,.slice none 0 0] 39)))
   obtain ⟨b1,g1,g2,g3⟩:=news3' hw1
   replace g1:=hid g1
   replace g2:=hid g2
   replace g3:=hid g3
   replace b1:=hid b1
   go_enter Tryz.func72,Tryz.ntmps72
   go_upto_region 1 with fail
   rw [←hw1]
   clear hw1
   have hg:w1.heap[w.heap.size]?=some (.cells #[.bool (decide (p.num<0)),.slice C1 (len p.num.natAbs) j1,.slice C2 (len p.den) j2] 39 (0,0)):=((Below.refl _ w1).block _ (Array.getElem?_eq_some_iff.1 g1.out).1).trans g1.out
   obtain ⟨z_x_0,z_x_1,z_x_2⟩:=cells3 hg
   clear hg
   have hg:w1.heap[w.heap.size+1]?=some (.cells #[.bool (decide (q.num<0)),.slice C3 (len q.num.natAbs) j3,.slice C4 (len q.den) j4] 39 (0,0)):=((Below.refl _ w1).block _ (Array.getElem?_eq_some_iff.1 g2.out).1).trans g2.out
   obtain ⟨z_y_0,z_y_1,z_y_2⟩:=cells3 hg
   clear hg
   have HX:=hid (cmpR_val ec.out (hx.out.keep b1.out) (hy.out.keep b1.out) tp.out tq.out)
   go_wp2_with fail
   refine (HX.out).mono ?_
   rintro e w2 ⟨rfl,b2⟩
   replace b2:=hid b2
   clear HX
   clear z_x_0 z_x_1 z_x_2 z_y_0 z_y_1 z_y_2
   have hg:w2.heap[w.heap.size]?=some (.cells #[.bool (decide (p.num<0)),.slice C1 (len p.num.natAbs) j1,.slice C2 (len p.den) j2] 39 (0,0)):=(b2.out.block _ (Array.getElem?_eq_some_iff.1 g1.out).1).trans g1.out
   obtain ⟨z_x_0,z_x_1,z_x_2⟩:=cells3 hg
   clear hg
   have DR:=(at_keep g3.out b2.out)
   have q0:w2.cell? ⟨w.heap.size+2,0,none⟩=some (.bool false):=cell_of_row _ _ _ _ _ _ DR
   have F0:w2.frozen? ⟨w.heap.size+2,0,none⟩=false:=frozen_of_row w2 (w.heap.size+2) 0 _ _ DR
   have q1:w2.cell? ⟨w.heap.size+2,1,none⟩=some (.slice none 0 0):=cell_of_row _ _ _ _ _ _ DR
   have F1:w2.frozen? ⟨w.heap.size+2,1,none⟩=false:=frozen_of_row w2 (w.heap.size+2) 1 _ _ DR
   have q2:w2.cell? ⟨w.heap.size+2,2,none⟩=some (.slice none 0 0):=cell_of_row _ _ _ _ _ _ DR
   have F2:w2.frozen? ⟨w.heap.size+2,2,none⟩=false:=frozen_of_row w2 (w.heap.size+2) 2 _ _ DR
   have FB:=(Below.step b1.out b2.out)
   have FV:=(hx.out.keep (Below.step b1.out b2.out))
   obtain ⟨ue,hw⟩:=eX ((((w2.setCell ⟨w.heap.size+2,0,none⟩ (.bool (decide (p.num<0)))).setCell ⟨w.heap.size+2,1,none⟩ (.slice C1 (len p.num.natAbs) j1)).setCell ⟨w.heap.size+2,2,none⟩ (.slice C2 (len p.den) j2)))
   obtain ⟨E_ue,-,LV,BL⟩:=stored3 DR hw
   have FE:=hid (LV.rat FV)
   replace FB:=hid (BL _ _ (by omega) FB)
   replace E_ue:=hid E_ue
   replace hw:=hid hw
   clear DR FV LV BL
   go_wp2_with fail
   rw [←hw.out]
   obtain ⟨r0,r1,r2⟩:=cells3 E_ue.out
   refine bodyPost_ret (v:=.agg #[.bool (decide (p.num<0)),.slice C1 (len p.num.natAbs) j1,.slice C2 (len p.den) j2]) ?_ rfl ⟨_,rfl,FE.out,FB.out⟩
   simp [results,Tryz.results72,go_sem,r0,r1,r2]
 · rw [if_neg h] at hr
   subst hr
   have hc:decide (c≤0)=false:=decide_eq_false (by rw [←ec];exact fun k=>h (cmpQ_le0.1 k))
   replace ec:=hid ec
   clear h
   obtain ⟨C5,j5,C6,j6,rfl,-,-⟩:=id hx.opened
   replace hx:=hid hx
   obtain ⟨C7,j7,C8,j8,rfl,-,-⟩:=id hy.opened
   replace hy:=hid hy
   obtain ⟨w1,hw1⟩:=eX ((((w.alloc (.cells #[.bool (decide (p.num<0)),.slice C5 (len p.num.natAbs) j5,.slice C6 (len p.den) j6] 39)).alloc (.cells #[.bool (decide (q.num<0)),.slice C7 (len q.num.natAbs) j7,.slice C8 (len q.den) j8] 39)).alloc (.cells #[.bool false,.slice none 0 0,.slice none 0 0] 39)))
   obtain ⟨b1,g1,g2,g3⟩:=news3' hw1
   replace g1:=hid g1
   replace g2:=hid g2
   replace g3:=hid g3
   replace b1:=hid b1
   go_enter Tryz.func72,Tryz.ntmps72
   go_upto_region 1 with fail
   rw [←hw1]
   clear hw1
   have hg:w1.heap[w.heap.size]?=some (.cells #[.bool (decide (p.num<0)),.slice C5 (len p.num.natAbs) j5,.slice C6 (len p.den) j6] 39 (0,0)):=((Below.refl _ w1).block _ (Array.getElem?_eq_some_iff.1 g1.out).1).trans g1.out
   obtain ⟨z_x_0,z_x_1,z_x_2⟩:=cells3 hg
   clear hg
   have hg:w1.heap[w.heap.size+1]?=some (.cells #[.bool (decide (q.num<0)),.slice C7 (len q.num.natAbs) j7,.slice C8 (len q.den) j8] 39 (0,0)):=((Below.refl _ w1).block _ (Array.getElem?_eq_some_iff.1 g2.out).1).trans g2.out
   obtain ⟨z_y_0,z_y_1,z_y_2⟩:=cells3 hg
   clear hg
   have HX:=hid (cmpR_val ec.out (hx.out.keep b1.out) (hy.out.keep b1.out) tp.out tq.out)
   go_wp2_with fail
   refine (HX.out).mono ?_
   rintro e w2 ⟨rfl,b2⟩
   replace b2:=hid b2
   clear HX
   clear z_x_0 z_x_1 z_x_2 z_y_0 z_y_1 z_y_2
   have hg:w2.heap[w.heap.size+1]?=some (.cells #[.bool (decide (q.num<0)),.slice C7 (len q.num.natAbs) j7,.slice C8 (len q.den) j8] 39 (0,0)):=(b2.out.block _ (Array.getElem?_eq_some_iff.1 g2.out).1).trans g2.out
   obtain ⟨z_y_0,z_y_1,z_y_2⟩:=cells3 hg
   clear hg
   have DR:=(at_keep g3.out b2.out)
   have q0:w2.cell? ⟨w.heap.size+2,0,none⟩=some (.bool false):=cell_of_row _ _ _ _ _ _ DR
   have F0:w2.frozen? ⟨w.heap.size+2,0,none⟩=false:=frozen_of_row w2 (w.heap.size+2) 0 _ _ DR
   have q1:w2.cell? ⟨w.heap.size+2,1,none⟩=some (.slice none 0 0):=cell_of_row _ _ _ _ _ _ DR
   have F1:w2.frozen? ⟨w.heap.size+2,1,none⟩=false:=frozen_of_row w2 (w.heap.size+2) 1 _ _ DR
   have q2:w2.cell? ⟨w.heap.size+2,2,none⟩=some (.slice none 0 0):=cell_of_row _ _ _ _ _ _ DR
   have F2:w2.frozen? ⟨w.heap.size+2,2,none⟩=false:=frozen_of_row w2 (w.heap.size+2) 2 _ _ DR
   have FB:=(Below.step b1.out b2.out)
   have FV:=(hy.out.keep (Below.step b1.out b2.out))
   obtain ⟨ue,hw⟩:=eX ((((w2.setCell ⟨w.heap.size+2,0,none⟩ (.bool (decide (q.num<0)))).setCell ⟨w.heap.size+2,1,none⟩ (.slice C7 (len q.num.natAbs) j7)).setCell ⟨w.heap.size+2,2,none⟩ (.slice C8 (len q.den) j8)))
   obtain ⟨E_ue,-,LV,BL⟩:=stored3 DR hw
   have FE:=hid (LV.rat FV)
   replace FB:=hid (BL _ _ (by omega) FB)
   replace E_ue:=hid E_ue
   replace hw:=hid hw
   clear DR FV LV BL
   go_wp2_with fail
   rw [←hw.out]
   obtain ⟨r0,r1,r2⟩:=cells3 E_ue.out
   refine bodyPost_ret (v:=.agg #[.bool (decide (q.num<0)),.slice C7 (len q.num.natAbs) j7,.slice C8 (len q.den) j8]) ?_ rfl ⟨_,rfl,FE.out,FB.out⟩
   simp [results,Tryz.results72,go_sem,r0,r1,r2]
theorem maxR_any {w:World} {vx vy:Value} {p q r:Rat} (hr:(if q≤p then p else q)=r) (hx:IsRat w vx p) (hy:IsRat w vy q) (sp:siz p≤16777216) (sq:siz q≤16777216) :
   Calls Tryz.prog 73 #[vx,vy] w (RatRet w r):=by
 have tp:siz p≤268435456:=by omega
 have tq:siz q≤268435456:=by omega
 replace tp:=hid tp
 replace tq:=hid tq
 clear sp sq
 obtain ⟨c,ec⟩:=eY (cmpQ p q:Int)
 rcases Decidable.em (q≤p) with h | h
 · rw [if_pos h] at hr
   subst hr
   have hc:decide (c≥0)=true:=decide_eq_true (by rw [←ec];exact cmpQ_ge0.2 h)
   replace ec:=hid ec
   clear h
   obtain ⟨C1,j1,C2,j2,rfl,-,-⟩:=id hx.opened
   replace hx:=hid hx
   obtain ⟨C3,j3,C4,j4,rfl,-,-⟩:=id hy.opened
   replace hy:=hid hy
   obtain ⟨w1,hw1⟩:=eX ((((w.alloc (.cells #[.bool (decide (p.num<0)),.slice C1 (len p.num.natAbs) j1,.slice C2 (len p.den) j2] 39)).alloc (.cells #[.bool (decide (q.num<0)),.slice C3 (len q.num.natAbs) j3,.slice C4 (len q.den) j4] 39)).alloc (.cells #[.bool false,.slice none 0 0,.slice none 0 0] 39)))
   obtain ⟨b1,g1,g2,g3⟩:=news3' hw1
   replace g1:=hid g1
   replace g2:=hid g2
   replace g3:=hid g3
   replace b1:=hid b1
   go_enter Tryz.func73,Tryz.ntmps73
   go_upto_region 1 with fail
   rw [←hw1]
   clear hw1
   have hg:w1.heap[w.heap.size]?=some (.cells #[.bool (decide (p.num<0)),.slice C1 (len p.num.natAbs) j1,.slice C2 (len p.den) j2] 39 (0,0)):=((Below.refl _ w1).block _ (Array.getElem?_eq_some_iff.1 g1.out).1).trans g1.out
   obtain ⟨z_x_0,z_x_1,z_x_2⟩:=cells3 hg
   clear hg
   have hg:w1.heap[w.heap.size+1]?=some (.cells #[.bool (decide (q.num<0)),.slice C3 (len q.num.natAbs) j3,.slice C4 (len q.den) j4] 39 (0,0)):=((Below.refl _ w1).block _ (Array.getElem?_eq_some_iff.1 g2.out).1).trans g2.out
   obtain ⟨z_y_0,z_y_1,z_y_2⟩:=cells3 hg
   clear hg
   have HX:=hid (cmpR_val ec.out (hx.out.keep b1.out) (hy.out.keep b1.out) tp.out tq.out)
   go_wp2_with fail
   refine (HX.out).mono ?_
   rintro e w2 ⟨rfl,b2⟩
   replace b2:=hid b2
   clear HX
   clear z_x_0 z_x_1 z_x_2 z_y_0 z_y_1 z_y_2
   have hg:w2.heap[w.heap.size]?=some (.cells #[.bool (decide (p.num<0)),.slice C1 (len p.num.natAbs) j1,.slice C2 (len p.den) j2] 39 (0,0)):=(b2.out.block _ (Array.getElem?_eq_some_iff.1 g1.out).1).trans g1.out
   obtain ⟨z_x_0,z_x_1,z_x_2⟩:=cells3 hg
   clear hg
   have DR:=(at_keep g3.out b2.out)
   have q0:w2.cell? ⟨w.heap.size+2,0,none⟩=some (.bool false):=cell_of_row _ _ _ _ _ _ DR
   have F0:w2.frozen? ⟨w.heap.size+2,0,none⟩=false:=frozen_of_row w2 (w.heap.size+2) 0 _ _ DR
   have q1:w2.cell? ⟨w.heap.size+2,1,none⟩=some (.slice none 0 0):=cell_of_row _ _ _ _ _ _ DR
   have F1:w2.frozen? ⟨w.heap.size+2,1,none⟩=false:=frozen_of_row w2 (w.heap.size+2) 1 _ _ DR
   have q2:w2.cell? ⟨w.heap.size+2,2,none⟩=some (.slice none 0 0):=cell_of_row _ _ _ _ _ _ DR
   have F2:w2.frozen? ⟨w.heap.size+2,2,none⟩=false:=frozen_of_row w2 (w.heap.size+2) 2 _ _ DR
   have FB:=(Below.step b1.out b2.out)
   have FV:=(hx.out.keep (Below.step b1.out b2.out))
   obtain ⟨ue,hw⟩:=eX ((((w2.setCell ⟨w.heap.size+2,0,none⟩ (.bool (decide (p.num<0)))).setCell ⟨w.heap.size+2,1,none⟩ (.slice C1 (len p.num.natAbs) j1)).setCell ⟨w.heap.size+2,2,none⟩ (.slice C2 (len p.den) j2)))
   obtain ⟨E_ue,-,LV,BL⟩:=stored3 DR hw
   have FE:=hid (LV.rat FV)
   replace FB:=hid (BL _ _ (by omega) FB)
   replace E_ue:=hid E_ue
   replace hw:=hid hw
   clear DR FV LV BL
   go_wp2_with fail
   rw [←hw.out]
   obtain ⟨r0,r1,r2⟩:=cells3 E_ue.out
   refine bodyPost_ret (v:=.agg #[.bool (decide (p.num<0)),.slice C1 (len p.num.natAbs) j1,.slice C2 (len p.den) j2]) ?_ rfl ⟨_,rfl,FE.out,FB.out⟩
   simp [results,Tryz.results73,go_sem,r0,r1,r2]
 · rw [if_neg h] at hr
   subst hr
   have hc:decide (c≥0)=false:=decide_eq_false (by rw [←ec];exact fun k=>h (cmpQ_ge0.1 k))
   replace ec:=hid ec
   clear h
   obtain ⟨C5,j5,C6,j6,rfl,-,-⟩:=id hx.opened
   replace hx:=hid hx
   obtain ⟨C7,j7,C8,j8,rfl,-,-⟩:=id hy.opened
   replace hy:=hid hy
   obtain ⟨w1,hw1⟩:=eX ((((w.alloc (.cells #[.bool (decide (p.num<0)),.slice C5 (len p.num.natAbs) j5,.slice C6 (len p.den) j6] 39)).alloc (.cells #[.bool (decide (q.num<0)),.slice C7 (len q.num.natAbs) j7,.slice C8 (len q.den) j8] 39)).alloc (.cells #[.bool false,.slice none 0 0,.slice none 0 0] 39)))
   obtain ⟨b1,g1,g2,g3⟩:=news3' hw1
   replace g1:=hid g1
   replace g2:=hid g2
   replace g3:=hid g3
   replace b1:=hid b1
   go_enter Tryz.func73,Tryz.ntmps73
   go_upto_region 1 with fail
   rw [←hw1]
   clear hw1
   have hg:w1.heap[w.heap.size]?=some (.cells #[.bool (decide (p.num<0)),.slice C5 (len p.num.natAbs) j5,.slice C6 (len p.den) j6] 39 (0,0)):=((Below.refl _ w1).block _ (Array.getElem?_eq_some_iff.1 g1.out).1).trans g1.out
   obtain ⟨z_x_0,z_x_1,z_x_2⟩:=cells3 hg
   clear hg
   have hg:w1.heap[w.heap.size+1]?=some (.cells #[.bool (decide (q.num<0)),.slice C7 (len q.num.natAbs) j7,.slice C8 (len q.den) j8] 39 (0,0)):=((Below.refl _ w1).block _ (Array.getElem?_eq_some_iff.1 g2.out).1).trans g2.out
   obtain ⟨z_y_0,z_y_1,z_y_2⟩:=cells3 hg
   clear hg
   have HX:=hid (cmpR_val ec.out (hx.out.keep b1.out) (hy.out.keep b1.out) tp.out tq.out)
   go_wp2_with fail
   refine (HX.out).mono ?_
   rintro e w2 ⟨rfl,b2⟩
   replace b2:=hid b2
   clear HX
   clear z_x_0 z_x_1 z_x_2 z_y_0 z_y_1 z_y_2
   have hg:w2.heap[w.heap.size+1]?=some (.cells #[.bool (decide (q.num<0)),.slice C7 (len q.num.natAbs) j7,.slice C8 (len q.den) j8] 39 (0,0)):=(b2.out.block _ (Array.getElem?_eq_some_iff.1 g2.out).1).trans g2.out
   obtain ⟨z_y_0,z_y_1,z_y_2⟩:=cells3 hg
   clear hg
   have DR:=(at_keep g3.out b2.out)
   have q0:w2.cell? ⟨w.heap.size+2,0,none⟩=some (.bool false):=cell_of_row _ _ _ _ _ _ DR
   have F0:w2.frozen? ⟨w.heap.size+2,0,none⟩=false:=frozen_of_row w2 (w.heap.size+2) 0 _ _ DR
   have q1:w2.cell? ⟨w.heap.size+2,1,none⟩=some (.slice none 0 0):=cell_of_row _ _ _ _ _ _ DR
   have F1:w2.frozen? ⟨w.heap.size+2,1,none⟩=false:=frozen_of_row w2 (w.heap.size+2) 1 _ _ DR
   have q2:w2.cell? ⟨w.heap.size+2,2,none⟩=some (.slice none 0 0):=cell_of_row _ _ _ _ _ _ DR
   have F2:w2.frozen? ⟨w.heap.size+2,2,none⟩=false:=frozen_of_row w2 (w.heap.size+2) 2 _ _ DR
   have FB:=(Below.step b1.out b2.out)
   have FV:=(hy.out.keep (Below.step b1.out b2.out))
   obtain ⟨ue,hw⟩:=eX ((((w2.setCell ⟨w.heap.size+2,0,none⟩ (.bool (decide (q.num<0)))).setCell ⟨w.heap.size+2,1,none⟩ (.slice C7 (len q.num.natAbs) j7)).setCell ⟨w.heap.size+2,2,none⟩ (.slice C8 (len q.den) j8)))
   obtain ⟨E_ue,-,LV,BL⟩:=stored3 DR hw
   have FE:=hid (LV.rat FV)
   replace FB:=hid (BL _ _ (by omega) FB)
   replace E_ue:=hid E_ue
   replace hw:=hid hw
   clear DR FV LV BL
   go_wp2_with fail
   rw [←hw.out]
   obtain ⟨r0,r1,r2⟩:=cells3 E_ue.out
   refine bodyPost_ret (v:=.agg #[.bool (decide (q.num<0)),.slice C7 (len q.num.natAbs) j7,.slice C8 (len q.den) j8]) ?_ rfl ⟨_,rfl,FE.out,FB.out⟩
   simp [results,Tryz.results73,go_sem,r0,r1,r2]
theorem pointR_any {w:World} {vx:Value} {p:Rat} (hx:IsRat w vx p) :
   Calls Tryz.prog 75 #[vx] w (RBoxRet w p p):=by
 obtain ⟨C1,j1,C2,j2,rfl,-,-⟩:=id hx.opened
 replace hx:=hid hx
 obtain ⟨w1,hw1⟩:=eX (((w.alloc (.cells #[.bool (decide (p.num<0)),.slice C1 (len p.num.natAbs) j1,.slice C2 (len p.den) j2] 39)).alloc (.cells #[.bool false,.slice none 0 0,.slice none 0 0,.bool false,.slice none 0 0,.slice none 0 0] 50)))
 obtain ⟨b1,g1,g2⟩:=news2' hw1
 replace g1:=hid g1
 replace g2:=hid g2
 replace b1:=hid b1
 go_enter Tryz.func75,Tryz.ntmps75
 go_upto_region 1 with fail
 rw [←hw1]
 clear hw1
 have hg:w1.heap[w.heap.size]?=some (.cells #[.bool (decide (p.num<0)),.slice C1 (len p.num.natAbs) j1,.slice C2 (len p.den) j2] 39 (0,0)):=((Below.refl _ w1).block _ (Array.getElem?_eq_some_iff.1 g1.out).1).trans g1.out
 obtain ⟨z_x_0,z_x_1,z_x_2⟩:=cells3 hg
 clear hg
 have DR:=(at_keep g2.out (Below.refl _ w1))
 have q0:w1.cell? ⟨w.heap.size+1,0,none⟩=some (.bool false):=cell_of_row _ _ _ _ _ _ DR
 have F0:w1.frozen? ⟨w.heap.size+1,0,none⟩=false:=frozen_of_row w1 (w.heap.size+1) 0 _ _ DR
 have q1:w1.cell? ⟨w.heap.size+1,1,none⟩=some (.slice none 0 0):=cell_of_row _ _ _ _ _ _ DR
 have F1:w1.frozen? ⟨w.heap.size+1,1,none⟩=false:=frozen_of_row w1 (w.heap.size+1) 1 _ _ DR
 have q2:w1.cell? ⟨w.heap.size+1,2,none⟩=some (.slice none 0 0):=cell_of_row _ _ _ _ _ _ DR
 have F2:w1.frozen? ⟨w.heap.size+1,2,none⟩=false:=frozen_of_row w1 (w.heap.size+1) 2 _ _ DR
 have q3:w1.cell? ⟨w.heap.size+1,3,none⟩=some (.bool false):=cell_of_row _ _ _ _ _ _ DR
 have F3:w1.frozen? ⟨w.heap.size+1,3,none⟩=false:=frozen_of_row w1 (w.heap.size+1) 3 _ _ DR
 have q4:w1.cell? ⟨w.heap.size+1,4,none⟩=some (.slice none 0 0):=cell_of_row _ _ _ _ _ _ DR
 have F4:w1.frozen? ⟨w.heap.size+1,4,none⟩=false:=frozen_of_row w1 (w.heap.size+1) 4 _ _ DR
 have q5:w1.cell? ⟨w.heap.size+1,5,none⟩=some (.slice none 0 0):=cell_of_row _ _ _ _ _ _ DR
 have F5:w1.frozen? ⟨w.heap.size+1,5,none⟩=false:=frozen_of_row w1 (w.heap.size+1) 5 _ _ DR
 have FB:=b1.out
 have FV:=(IsRat.pair (hx.out.keep b1.out) (hx.out.keep b1.out))
 obtain ⟨ue,hw⟩:=eX (((((((w1.setCell ⟨w.heap.size+1,0,none⟩ (.bool (decide (p.num<0)))).setCell ⟨w.heap.size+1,1,none⟩ (.slice C1 (len p.num.natAbs) j1)).setCell ⟨w.heap.size+1,2,none⟩ (.slice C2 (len p.den) j2)).setCell ⟨w.heap.size+1,3,none⟩ (.bool (decide (p.num<0)))).setCell ⟨w.heap.size+1,4,none⟩ (.slice C1 (len p.num.natAbs) j1)).setCell ⟨w.heap.size+1,5,none⟩ (.slice C2 (len p.den) j2)))
 obtain ⟨E_ue,-,LV,BL⟩:=stored6 DR hw
 have FE:=hid (LV.rbox FV)
 replace FB:=hid (BL _ _ (by omega) FB)
 replace E_ue:=hid E_ue
 replace hw:=hid hw
 clear DR FV LV BL
 go_wp2_with fail
 rw [←hw.out]
 obtain ⟨r0,r1,r2,r3,r4,r5⟩:=cells6 E_ue.out
 refine bodyPost_ret (v:=.agg #[.bool (decide (p.num<0)),.slice C1 (len p.num.natAbs) j1,.slice C2 (len p.den) j2,.bool (decide (p.num<0)),.slice C1 (len p.num.natAbs) j1,.slice C2 (len p.den) j2]) ?_ rfl ⟨_,rfl,FE.out,FB.out⟩
 simp [results,Tryz.results75,go_sem,r0,r1,r2,r3,r4,r5]
theorem addBoxR_any {w:World} {vx vy:Value} {a b c d l h:Rat} (el:a+c=l) (eh:b+d=h) (hx:IsRBox w vx a b) (hy:IsRBox w vy c d) (sa:siz a≤16777216) (sb:siz b≤16777216) (sc:siz c≤16777216) (sd:siz d≤16777216) :
   Calls Tryz.prog 18 #[vx,vy] w (RBoxRet w l h):=by
 have ta:siz a≤268435456:=by omega
 have tb:siz b≤268435456:=by omega
 have tc:siz c≤268435456:=by omega
 have td:siz d≤268435456:=by omega
 replace ta:=hid ta
 replace tb:=hid tb
 replace tc:=hid tc
 replace td:=hid td
 clear sa sb sc sd
 replace el:=hid el
 replace eh:=hid eh
 obtain ⟨C1,j1,C2,j2,C3,j3,C4,j4,rfl,hxl,hxh⟩:=id hx.opened
 replace hx:=hid hx
 replace hxl:=hid hxl
 replace hxh:=hid hxh
 obtain ⟨C5,j5,C6,j6,C7,j7,C8,j8,rfl,hyl,hyh⟩:=id hy.opened
 replace hy:=hid hy
 replace hyl:=hid hyl
 replace hyh:=hid hyh
 obtain ⟨w1,hw1⟩:=eX ((((w.alloc (.cells #[.bool (decide (a.num<0)),.slice C1 (len a.num.natAbs) j1,.slice C2 (len a.den) j2,.bool (decide (b.num<0)),.slice C3 (len b.num.natAbs) j3,.slice C4 (len b.den) j4] 50)).alloc (.cells #[.bool (decide (c.num<0)),.slice C5 (len c.num.natAbs) j5,.slice C6 (len c.den) j6,.bool (decide (d.num<0)),.slice C7 (len d.num.natAbs) j7,.slice C8 (len d.den) j8] 50)).alloc (.cells #[.bool false,.slice none 0 0,.slice none 0 0,.bool false,.slice none 0 0,.slice none 0 0] 50)))
 obtain ⟨b1,g1,g2,g3⟩:=news3' hw1
 replace g1:=hid g1
 replace g2:=hid g2
 replace g3:=hid g3
 replace b1:=hid b1
 go_enter Tryz.func18,Tryz.ntmps18
 go_upto_region 1 with fail
 rw [←hw1]
 clear hw1
 go_wp2_with fail
 have HSZa:Hid ((w.heap.size+2)≤w1.heap.size):=hid (by have:=at_lt (at_keep g3.out (Below.refl _ w1));omega)
 have hg:w1.heap[w.heap.size]?=some (.cells #[.bool (decide (a.num<0)),.slice C1 (len a.num.natAbs) j1,.slice C2 (len a.den) j2,.bool (decide (b.num<0)),.slice C3 (len b.num.natAbs) j3,.slice C4 (len b.den) j4] 50 (0,0)):=((Below.refl _ w1).block _ (Array.getElem?_eq_some_iff.1 g1.out).1).trans g1.out
 obtain ⟨z_x_0,z_x_1,z_x_2,z_x_3,z_x_4,z_x_5⟩:=cells6 hg
 clear hg
 have hlta_x:w.heap.size<(w.heap.size+2):=by omega
 have hg:w1.heap[w.heap.size+1]?=some (.cells #[.bool (decide (c.num<0)),.slice C5 (len c.num.natAbs) j5,.slice C6 (len c.den) j6,.bool (decide (d.num<0)),.slice C7 (len d.num.natAbs) j7,.slice C8 (len d.den) j8] 50 (0,0)):=((Below.refl _ w1).block _ (Array.getElem?_eq_some_iff.1 g2.out).1).trans g2.out
 obtain ⟨z_y_0,z_y_1,z_y_2,z_y_3,z_y_4,z_y_5⟩:=cells6 hg
 clear hg
 have hlta_y:w.heap.size+1<(w.heap.size+2):=by omega
 have H0:=Held0.start w1 (w.heap.size+2)
 have H0':=H0
 unfold Held0 at H0'
 refine wp_region_held_drew (S:=(fun w'=>(∀ b o,b<(w.heap.size+2)→w'.cell? ⟨b,o,none⟩=w1.cell? ⟨b,o,none⟩)∧Below ((w.heap.size+2)) w1 w'∧Stay w1 w')) (by kernel_rfl) ?_ (fun hHeld=>?_)
 · (try dsimp only)
   exact H0'
 obtain ⟨w2,hw2⟩:=eX w1.drew
 have b2:Hid (Below w1.heap.size w1 w2):=by rw [hw2];exact ⟨rfl,rfl,rfl,Nat.le_refl _,fun _ _=>rfl⟩
 rw [←hw2] at hHeld H0 ⊢
 clear hw2 H0'
 refine tk (i:=0) (h:=?_)
 try simp only [Act.put,lt,ly,lu]
 refine tk (i:=1) (h:=?_)
 try simp only [Act.put,lt,ly,lu]
 refine tk (i:=2) (h:=?_)
 try simp only [Act.put,lt,ly,lu]
 refine tk (i:=3) (h:=?_)
 try simp only [Act.put,lt,ly,lu]
 refine tk (i:=5) (h:=?_)
 try simp only [Act.put,lt,ly,lu]
 refine tk (i:=6) (h:=?_)
 try simp only [Act.put,lt,ly,lu]
 refine tk (i:=7) (h:=?_)
 try simp only [Act.put,lt,ly,lu]
 refine tk (i:=8) (h:=?_)
 try simp only [Act.put,lt,ly,lu]
 refine wpAnyH_ready (rs:=[4]) (by kernel_rfl) (by simp) (AllReadyH.cons (o:=?oq9) ?eq9 ?kq9 AllReadyH.nil)
 case eq9=>simp only [lg,lz,ls];rfl
 intro K hK;go_simp;go_at_call 61
 refine (addR_val el.out (hxl.out.keep (Below.step b1.out b2.out)) (hyl.out.keep (Below.step b1.out b2.out)) ta.out tc.out).mono ?_
 rintro e w3 ⟨v3,rfl,hv3,b3⟩
 obtain ⟨C9,j9,C10,j10,rfl,-,-⟩:=id hv3.opened
 replace hv3:=hid hv3
 replace b3:=hid b3
 have hk3:=hcall_le H0 HSZa b3.out;have hk3':=hk3;unfold Held0 at hk3';clear hHeld H0
 refine hK.out _ _ ?_ (fun hHeld=>?_)
 · (try dsimp only);with_reducible exact hk3'
 clear hK K hk3';try simp only [Act.put,lt,ly,lu]
 refine wpAnyH_ready (rs:=[9]) (by kernel_rfl) (by simp) (AllReadyH.cons (o:=?oq10) ?eq10 ?kq10 AllReadyH.nil)
 case eq10=>simp only [lg,lz,ls];rfl
 intro K hK;go_simp;go_at_call 61
 refine (addR_val eh.out (hxh.out.keep (Below.step (Below.step b1.out b2.out) b3.out)) (hyh.out.keep (Below.step (Below.step b1.out b2.out) b3.out)) tb.out td.out).mono ?_
 rintro e w4 ⟨v4,rfl,hv4,b4⟩
 obtain ⟨C11,j11,C12,j12,rfl,-,-⟩:=id hv4.opened
 replace hv4:=hid hv4
 replace b4:=hid b4
 have hk4:=hcall_le hk3 HSZa b4.out;have hk4':=hk4;unfold Held0 at hk4';clear hHeld hk3
 refine hK.out _ _ ?_ (fun hHeld=>?_)
 · (try dsimp only);with_reducible exact hk4'
 clear hK K hk4';try simp only [Act.put,lt,ly,lu]
 refine tk (i:=10) (h:=?_)
 try simp only [Act.put,lt,ly,lu]
 have Dq12:=(at_keep g3.out (Below.step (Below.step b2.out b3.out) b4.out))
 refine wpAnyH_ready (rs:=[11]) (by kernel_rfl) (by simp) (AllReadyH.cons (o:=?oq12) ?eq12 ?kq12 AllReadyH.nil)
 case eq12=>simp only [lg,lz,ls];rfl
 intro K hK
 have q0:w4.cell? ⟨w.heap.size+2,0,none⟩=some (.bool false):=cell_of_row _ _ _ _ _ _ Dq12
 have F0:w4.frozen? ⟨w.heap.size+2,0,none⟩=false:=frozen_of_row w4 (w.heap.size+2) 0 _ _ Dq12
 have q1:w4.cell? ⟨w.heap.size+2,1,none⟩=some (.slice none 0 0):=cell_of_row _ _ _ _ _ _ Dq12
 have F1:w4.frozen? ⟨w.heap.size+2,1,none⟩=false:=frozen_of_row w4 (w.heap.size+2) 1 _ _ Dq12
 have q2:w4.cell? ⟨w.heap.size+2,2,none⟩=some (.slice none 0 0):=cell_of_row _ _ _ _ _ _ Dq12
 have F2:w4.frozen? ⟨w.heap.size+2,2,none⟩=false:=frozen_of_row w4 (w.heap.size+2) 2 _ _ Dq12
 have q3:w4.cell? ⟨w.heap.size+2,3,none⟩=some (.bool false):=cell_of_row _ _ _ _ _ _ Dq12
 have F3:w4.frozen? ⟨w.heap.size+2,3,none⟩=false:=frozen_of_row w4 (w.heap.size+2) 3 _ _ Dq12
 have q4:w4.cell? ⟨w.heap.size+2,4,none⟩=some (.slice none 0 0):=cell_of_row _ _ _ _ _ _ Dq12
 have F4:w4.frozen? ⟨w.heap.size+2,4,none⟩=false:=frozen_of_row w4 (w.heap.size+2) 4 _ _ Dq12
 have q5:w4.cell? ⟨w.heap.size+2,5,none⟩=some (.slice none 0 0):=cell_of_row _ _ _ _ _ _ Dq12
 have F5:w4.frozen? ⟨w.heap.size+2,5,none⟩=false:=frozen_of_row w4 (w.heap.size+2) 5 _ _ Dq12
 replace Dq12:=hid Dq12
 go_simp
 clear q0 F0 q1 F1 q2 F2 q3 F3 q4 F4 q5 F5
 have FB:=hid (Below.step (Below.step (Below.step b1.out b2.out) b3.out) b4.out)
 have FV:=hid (IsRat.pair (hv3.out.keep b4.out) hv4.out)
 obtain ⟨ue,hw⟩:=eX (((((((w4.setCell ⟨w.heap.size+2,0,none⟩ (.bool (decide (l.num<0)))).setCell ⟨w.heap.size+2,1,none⟩ (.slice C9 (len l.num.natAbs) j9)).setCell ⟨w.heap.size+2,2,none⟩ (.slice C10 (len l.den) j10)).setCell ⟨w.heap.size+2,3,none⟩ (.bool (decide (h.num<0)))).setCell ⟨w.heap.size+2,4,none⟩ (.slice C11 (len h.num.natAbs) j11)).setCell ⟨w.heap.size+2,5,none⟩ (.slice C12 (len h.den) j12)))
 obtain ⟨E_ue,OT,LV,BL⟩:=stored6 Dq12.out hw
 rw [←hw]
 clear hw
 replace E_ue:=hid E_ue
 have FE:=hid (LV.rbox FV.out)
 replace FB:=hid (BL _ _ (by omega) FB.out)
 have HKE:=hk4
 refine hK.out _ _ ?_ (fun hHeld2=>?_)
 · (try dsimp only)
   exact ⟨fun b o hb=>(below_cell (BL (w.heap.size+2) _ (by omega) hk4.2.1)) b o hb,BL (w.heap.size+2) _ (by omega) hk4.2.1,stay_trans hk4.2.2 LV⟩
 clear hK K hHeld OT LV BL HKE
 try simp only [Act.put,lt,ly,lu]
 have hHeld:=hHeld2
 clear hHeld2
 refine wpAnyH_done (by kernel_rfl) ?_ _
 clear hHeld
 obtain ⟨r0,r1,r2,r3,r4,r5⟩:=cells6 E_ue.out
 go_wp2_with fail
 refine bodyPost_ret (v:=.agg #[.bool (decide (l.num<0)),.slice C9 (len l.num.natAbs) j9,.slice C10 (len l.den) j10,.bool (decide (h.num<0)),.slice C11 (len h.num.natAbs) j11,.slice C12 (len h.den) j12]) ?_ rfl ⟨_,rfl,FE.out,FB.out⟩
 simp [results,Tryz.results18,go_sem,r0,r1,r2,r3,r4,r5]
theorem hullBoxR_any {w:World} {vx vy:Value} {a b c d l h:Rat} (el:(if a≤c then a else c)=l) (eh:(if d≤b then b else d)=h) (hx:IsRBox w vx a b) (hy:IsRBox w vy c d) (sa:siz a≤16777216) (sb:siz b≤16777216) (sc:siz c≤16777216) (sd:siz d≤16777216) :
   Calls Tryz.prog 28 #[vx,vy] w (RBoxRet w l h):=by
 replace el:=hid el
 replace eh:=hid eh
 replace sa:=hid sa
 replace sb:=hid sb
 replace sc:=hid sc
 replace sd:=hid sd
 obtain ⟨C1,j1,C2,j2,C3,j3,C4,j4,rfl,hxl,hxh⟩:=id hx.opened
 replace hx:=hid hx
 replace hxl:=hid hxl
 replace hxh:=hid hxh
 obtain ⟨C5,j5,C6,j6,C7,j7,C8,j8,rfl,hyl,hyh⟩:=id hy.opened
 replace hy:=hid hy
 replace hyl:=hid hyl
 replace hyh:=hid hyh
 obtain ⟨w1,hw1⟩:=eX ((((w.alloc (.cells #[.bool (decide (a.num<0)),.slice C1 (len a.num.natAbs) j1,.slice C2 (len a.den) j2,.bool (decide (b.num<0)),.slice C3 (len b.num.natAbs) j3,.slice C4 (len b.den) j4] 50)).alloc (.cells #[.bool (decide (c.num<0)),.slice C5 (len c.num.natAbs) j5,.slice C6 (len c.den) j6,.bool (decide (d.num<0)),.slice C7 (len d.num.natAbs) j7,.slice C8 (len d.den) j8] 50)).alloc (.cells #[.bool false,.slice none 0 0,.slice none 0 0,.bool false,.slice none 0 0,.slice none 0 0] 50)))
 obtain ⟨b1,g1,g2,g3⟩:=news3' hw1
 replace g1:=hid g1
 replace g2:=hid g2
 replace g3:=hid g3
 replace b1:=hid b1
 go_enter Tryz.func28,Tryz.ntmps28
 go_upto_region 1 with fail
 rw [←hw1]
 clear hw1
 go_wp2_with fail
 have HSZa:Hid ((w.heap.size+2)≤w1.heap.size):=hid (by have:=at_lt (at_keep g3.out (Below.refl _ w1));omega)
 have hg:w1.heap[w.heap.size]?=some (.cells #[.bool (decide (a.num<0)),.slice C1 (len a.num.natAbs) j1,.slice C2 (len a.den) j2,.bool (decide (b.num<0)),.slice C3 (len b.num.natAbs) j3,.slice C4 (len b.den) j4] 50 (0,0)):=((Below.refl _ w1).block _ (Array.getElem?_eq_some_iff.1 g1.out).1).trans g1.out
 obtain ⟨z_x_0,z_x_1,z_x_2,z_x_3,z_x_4,z_x_5⟩:=cells6 hg
 clear hg
 have hlta_x:w.heap.size<(w.heap.size+2):=by omega
 have hg:w1.heap[w.heap.size+1]?=some (.cells #[.bool (decide (c.num<0)),.slice C5 (len c.num.natAbs) j5,.slice C6 (len c.den) j6,.bool (decide (d.num<0)),.slice C7 (len d.num.natAbs) j7,.slice C8 (len d.den) j8] 50 (0,0)):=((Below.refl _ w1).block _ (Array.getElem?_eq_some_iff.1 g2.out).1).trans g2.out
 obtain ⟨z_y_0,z_y_1,z_y_2,z_y_3,z_y_4,z_y_5⟩:=cells6 hg
 clear hg
 have hlta_y:w.heap.size+1<(w.heap.size+2):=by omega
 have H0:=Held0.start w1 (w.heap.size+2)
 have H0':=H0
 unfold Held0 at H0'
 refine wp_region_held_drew (S:=(fun w'=>(∀ b o,b<(w.heap.size+2)→w'.cell? ⟨b,o,none⟩=w1.cell? ⟨b,o,none⟩)∧Below ((w.heap.size+2)) w1 w'∧Stay w1 w')) (by kernel_rfl) ?_ (fun hHeld=>?_)
 · (try dsimp only)
   exact H0'
 obtain ⟨w2,hw2⟩:=eX w1.drew
 have b2:Hid (Below w1.heap.size w1 w2):=by rw [hw2];exact ⟨rfl,rfl,rfl,Nat.le_refl _,fun _ _=>rfl⟩
 rw [←hw2] at hHeld H0 ⊢
 clear hw2 H0'
 refine tk (i:=0) (h:=?_)
 try simp only [Act.put,lt,ly,lu]
 refine tk (i:=1) (h:=?_)
 try simp only [Act.put,lt,ly,lu]
 refine tk (i:=2) (h:=?_)
 try simp only [Act.put,lt,ly,lu]
 refine tk (i:=3) (h:=?_)
 try simp only [Act.put,lt,ly,lu]
 refine tk (i:=5) (h:=?_)
 try simp only [Act.put,lt,ly,lu]
 refine tk (i:=6) (h:=?_)
 try simp only [Act.put,lt,ly,lu]
 refine tk (i:=7) (h:=?_)
 try simp only [Act.put,lt,ly,lu]
 refine tk (i:=8) (h:=?_)
 try simp only [Act.put,lt,ly,lu]
 refine wpAnyH_ready (rs:=[4]) (by kernel_rfl) (by simp) (AllReadyH.cons (o:=?oq21) ?eq21 ?kq21 AllReadyH.nil)
 case eq21=>simp only [lg,lz,ls];rfl
 intro K hK;go_simp;go_at_call 72
 refine (minR_any el.out (hxl.out.keep (Below.step b1.out b2.out)) (hyl.out.keep (Below.step b1.out b2.out)) sa.out sc.out).mono ?_
 rintro e w3 ⟨v3,rfl,hv3,b3⟩
 obtain ⟨C9,j9,C10,j10,rfl,-,-⟩:=id hv3.opened
 replace hv3:=hid hv3
 replace b3:=hid b3
 have hk3:=hcall_le H0 HSZa b3.out;have hk3':=hk3;unfold Held0 at hk3';clear hHeld H0
 refine hK.out _ _ ?_ (fun hHeld=>?_)
 · (try dsimp only);with_reducible exact hk3'
 clear hK K hk3';try simp only [Act.put,lt,ly,lu]
 refine wpAnyH_ready (rs:=[9]) (by kernel_rfl) (by simp) (AllReadyH.cons (o:=?oq22) ?eq22 ?kq22 AllReadyH.nil)
 case eq22=>simp only [lg,lz,ls];rfl
 intro K hK;go_simp;go_at_call 73
 refine (maxR_any eh.out (hxh.out.keep (Below.step (Below.step b1.out b2.out) b3.out)) (hyh.out.keep (Below.step (Below.step b1.out b2.out) b3.out)) sb.out sd.out).mono ?_
 rintro e w4 ⟨v4,rfl,hv4,b4⟩
 obtain ⟨C11,j11,C12,j12,rfl,-,-⟩:=id hv4.opened
 replace hv4:=hid hv4
 replace b4:=hid b4
 have hk4:=hcall_le hk3 HSZa b4.out;have hk4':=hk4;unfold Held0 at hk4';clear hHeld hk3
 refine hK.out _ _ ?_ (fun hHeld=>?_)
 · (try dsimp only);with_reducible exact hk4'
 clear hK K hk4';try simp only [Act.put,lt,ly,lu]
 refine tk (i:=10) (h:=?_)
 try simp only [Act.put,lt,ly,lu]
 have Dq24:=(at_keep g3.out (Below.step (Below.step b2.out b3.out) b4.out))
 refine wpAnyH_ready (rs:=[11]) (by kernel_rfl) (by simp) (AllReadyH.cons (o:=?oq24) ?eq24 ?kq24 AllReadyH.nil)
 case eq24=>simp only [lg,lz,ls];rfl
 intro K hK
 have q0:w4.cell? ⟨w.heap.size+2,0,none⟩=some (.bool false):=cell_of_row _ _ _ _ _ _ Dq24
 have F0:w4.frozen? ⟨w.heap.size+2,0,none⟩=false:=frozen_of_row w4 (w.heap.size+2) 0 _ _ Dq24
 have q1:w4.cell? ⟨w.heap.size+2,1,none⟩=some (.slice none 0 0):=cell_of_row _ _ _ _ _ _ Dq24
 have F1:w4.frozen? ⟨w.heap.size+2,1,none⟩=false:=frozen_of_row w4 (w.heap.size+2) 1 _ _ Dq24
 have q2:w4.cell? ⟨w.heap.size+2,2,none⟩=some (.slice none 0 0):=cell_of_row _ _ _ _ _ _ Dq24
 have F2:w4.frozen? ⟨w.heap.size+2,2,none⟩=false:=frozen_of_row w4 (w.heap.size+2) 2 _ _ Dq24
 have q3:w4.cell? ⟨w.heap.size+2,3,none⟩=some (.bool false):=cell_of_row _ _ _ _ _ _ Dq24
 have F3:w4.frozen? ⟨w.heap.size+2,3,none⟩=false:=frozen_of_row w4 (w.heap.size+2) 3 _ _ Dq24
 have q4:w4.cell? ⟨w.heap.size+2,4,none⟩=some (.slice none 0 0):=cell_of_row _ _ _ _ _ _ Dq24
 have F4:w4.frozen? ⟨w.heap.size+2,4,none⟩=false:=frozen_of_row w4 (w.heap.size+2) 4 _ _ Dq24
 have q5:w4.cell? ⟨w.heap.size+2,5,none⟩=some (.slice none 0 0):=cell_of_row _ _ _ _ _ _ Dq24
 have F5:w4.frozen? ⟨w.heap.size+2,5,none⟩=false:=frozen_of_row w4 (w.heap.size+2) 5 _ _ Dq24
 replace Dq24:=hid Dq24
 go_simp
 clear q0 F0 q1 F1 q2 F2 q3 F3 q4 F4 q5 F5
 have FB:=hid (Below.step (Below.step (Below.step b1.out b2.out) b3.out) b4.out)
 have FV:=hid (IsRat.pair (hv3.out.keep b4.out) hv4.out)
 obtain ⟨ue,hw⟩:=eX (((((((w4.setCell ⟨w.heap.size+2,0,none⟩ (.bool (decide (l.num<0)))).setCell ⟨w.heap.size+2,1,none⟩ (.slice C9 (len l.num.natAbs) j9)).setCell ⟨w.heap.size+2,2,none⟩ (.slice C10 (len l.den) j10)).setCell ⟨w.heap.size+2,3,none⟩ (.bool (decide (h.num<0)))).setCell ⟨w.heap.size+2,4,none⟩ (.slice C11 (len h.num.natAbs) j11)).setCell ⟨w.heap.size+2,5,none⟩ (.slice C12 (len h.den) j12)))
 obtain ⟨E_ue,OT,LV,BL⟩:=stored6 Dq24.out hw
 rw [←hw]
 clear hw
 replace E_ue:=hid E_ue
 have FE:=hid (LV.rbox FV.out)
 replace FB:=hid (BL _ _ (by omega) FB.out)
 have HKE:=hk4
 refine hK.out _ _ ?_ (fun hHeld2=>?_)
 · (try dsimp only)
   exact ⟨fun b o hb=>(below_cell (BL (w.heap.size+2) _ (by omega) hk4.2.1)) b o hb,BL (w.heap.size+2) _ (by omega) hk4.2.1,stay_trans hk4.2.2 LV⟩
 clear hK K hHeld OT LV BL HKE
 try simp only [Act.put,lt,ly,lu]
 have hHeld:=hHeld2
 clear hHeld2
 refine wpAnyH_done (by kernel_rfl) ?_ _
 clear hHeld
 obtain ⟨r0,r1,r2,r3,r4,r5⟩:=cells6 E_ue.out
 go_wp2_with fail
 refine bodyPost_ret (v:=.agg #[.bool (decide (l.num<0)),.slice C9 (len l.num.natAbs) j9,.slice C10 (len l.den) j10,.bool (decide (h.num<0)),.slice C11 (len h.num.natAbs) j11,.slice C12 (len h.den) j12]) ?_ rfl ⟨_,rfl,FE.out,FB.out⟩
 simp [results,Tryz.results28,go_sem,r0,r1,r2,r3,r4,r5]
theorem negBoxR_any {w:World} {vx:Value} {a b l h:Rat} (el : -b=l) (eh : -a=h) (hx:IsRBox w vx a b) :
   Calls Tryz.prog 24 #[vx] w (RBoxRet w l h):=by
 replace el:=hid el
 replace eh:=hid eh
 obtain ⟨C1,j1,C2,j2,C3,j3,C4,j4,rfl,hxl,hxh⟩:=id hx.opened
 replace hx:=hid hx
 replace hxl:=hid hxl
 replace hxh:=hid hxh
 obtain ⟨w1,hw1⟩:=eX (((w.alloc (.cells #[.bool (decide (a.num<0)),.slice C1 (len a.num.natAbs) j1,.slice C2 (len a.den) j2,.bool (decide (b.num<0)),.slice C3 (len b.num.natAbs) j3,.slice C4 (len b.den) j4] 50)).alloc (.cells #[.bool false,.slice none 0 0,.slice none 0 0,.bool false,.slice none 0 0,.slice none 0 0] 50)))
 obtain ⟨b1,g1,g2⟩:=news2' hw1
 replace g1:=hid g1
 replace g2:=hid g2
 replace b1:=hid b1
 go_enter Tryz.func24,Tryz.ntmps24
 go_upto_region 1 with fail
 rw [←hw1]
 clear hw1
 go_wp2_with fail
 have HSZa:Hid ((w.heap.size+1)≤w1.heap.size):=hid (by have:=at_lt (at_keep g2.out (Below.refl _ w1));omega)
 have hg:w1.heap[w.heap.size]?=some (.cells #[.bool (decide (a.num<0)),.slice C1 (len a.num.natAbs) j1,.slice C2 (len a.den) j2,.bool (decide (b.num<0)),.slice C3 (len b.num.natAbs) j3,.slice C4 (len b.den) j4] 50 (0,0)):=((Below.refl _ w1).block _ (Array.getElem?_eq_some_iff.1 g1.out).1).trans g1.out
 obtain ⟨z_x_0,z_x_1,z_x_2,z_x_3,z_x_4,z_x_5⟩:=cells6 hg
 clear hg
 have hlta_x:w.heap.size<(w.heap.size+1):=by omega
 have H0:=Held0.start w1 (w.heap.size+1)
 have H0':=H0
 unfold Held0 at H0'
 refine wp_region_held_drew (S:=(fun w'=>(∀ b o,b<(w.heap.size+1)→w'.cell? ⟨b,o,none⟩=w1.cell? ⟨b,o,none⟩)∧Below ((w.heap.size+1)) w1 w'∧Stay w1 w')) (by kernel_rfl) ?_ (fun hHeld=>?_)
 · (try dsimp only)
   exact H0'
 obtain ⟨w2,hw2⟩:=eX w1.drew
 have b2:Hid (Below w1.heap.size w1 w2):=by rw [hw2];exact ⟨rfl,rfl,rfl,Nat.le_refl _,fun _ _=>rfl⟩
 rw [←hw2] at hHeld H0 ⊢
 clear hw2 H0'
 refine tk (i:=0) (h:=?_)
 try simp only [Act.put,lt,ly,lu]
 refine tk (i:=1) (h:=?_)
 try simp only [Act.put,lt,ly,lu]
 refine tk (i:=3) (h:=?_)
 try simp only [Act.put,lt,ly,lu]
 refine tk (i:=4) (h:=?_)
 try simp only [Act.put,lt,ly,lu]
 refine wpAnyH_ready (rs:=[2]) (by kernel_rfl) (by simp) (AllReadyH.cons (o:=?oq29) ?eq29 ?kq29 AllReadyH.nil)
 case eq29=>simp only [lg,lz,ls];rfl
 intro K hK;go_simp;go_at_call 68
 refine (negR_any el.out (hxh.out.keep (Below.step b1.out b2.out))).mono ?_
 rintro e w3 ⟨v3,rfl,hv3,b3⟩
 obtain ⟨C5,j5,C6,j6,rfl,-,-⟩:=id hv3.opened
 replace hv3:=hid hv3
 replace b3:=hid b3
 have hk3:=hcall_le H0 HSZa b3.out;have hk3':=hk3;unfold Held0 at hk3';clear hHeld H0
 refine hK.out _ _ ?_ (fun hHeld=>?_)
 · (try dsimp only);with_reducible exact hk3'
 clear hK K hk3';try simp only [Act.put,lt,ly,lu]
 refine wpAnyH_ready (rs:=[5]) (by kernel_rfl) (by simp) (AllReadyH.cons (o:=?oq30) ?eq30 ?kq30 AllReadyH.nil)
 case eq30=>simp only [lg,lz,ls];rfl
 intro K hK;go_simp;go_at_call 68
 refine (negR_any eh.out (hxl.out.keep (Below.step (Below.step b1.out b2.out) b3.out))).mono ?_
 rintro e w4 ⟨v4,rfl,hv4,b4⟩
 obtain ⟨C7,j7,C8,j8,rfl,-,-⟩:=id hv4.opened
 replace hv4:=hid hv4
 replace b4:=hid b4
 have hk4:=hcall_le hk3 HSZa b4.out;have hk4':=hk4;unfold Held0 at hk4';clear hHeld hk3
 refine hK.out _ _ ?_ (fun hHeld=>?_)
 · (try dsimp only);with_reducible exact hk4'
 clear hK K hk4';try simp only [Act.put,lt,ly,lu]
 refine tk (i:=6) (h:=?_)
 try simp only [Act.put,lt,ly,lu]
 have Dq32:=(at_keep g2.out (Below.step (Below.step b2.out b3.out) b4.out))
 refine wpAnyH_ready (rs:=[7]) (by kernel_rfl) (by simp) (AllReadyH.cons (o:=?oq32) ?eq32 ?kq32 AllReadyH.nil)
 case eq32=>simp only [lg,lz,ls];rfl
 intro K hK
 have q0:w4.cell? ⟨w.heap.size+1,0,none⟩=some (.bool false):=cell_of_row _ _ _ _ _ _ Dq32
 have F0:w4.frozen? ⟨w.heap.size+1,0,none⟩=false:=frozen_of_row w4 (w.heap.size+1) 0 _ _ Dq32
 have q1:w4.cell? ⟨w.heap.size+1,1,none⟩=some (.slice none 0 0):=cell_of_row _ _ _ _ _ _ Dq32
 have F1:w4.frozen? ⟨w.heap.size+1,1,none⟩=false:=frozen_of_row w4 (w.heap.size+1) 1 _ _ Dq32
 have q2:w4.cell? ⟨w.heap.size+1,2,none⟩=some (.slice none 0 0):=cell_of_row _ _ _ _ _ _ Dq32
 have F2:w4.frozen? ⟨w.heap.size+1,2,none⟩=false:=frozen_of_row w4 (w.heap.size+1) 2 _ _ Dq32
 have q3:w4.cell? ⟨w.heap.size+1,3,none⟩=some (.bool false):=cell_of_row _ _ _ _ _ _ Dq32
 have F3:w4.frozen? ⟨w.heap.size+1,3,none⟩=false:=frozen_of_row w4 (w.heap.size+1) 3 _ _ Dq32
 have q4:w4.cell? ⟨w.heap.size+1,4,none⟩=some (.slice none 0 0):=cell_of_row _ _ _ _ _ _ Dq32
 have F4:w4.frozen? ⟨w.heap.size+1,4,none⟩=false:=frozen_of_row w4 (w.heap.size+1) 4 _ _ Dq32
 have q5:w4.cell? ⟨w.heap.size+1,5,none⟩=some (.slice none 0 0):=cell_of_row _ _ _ _ _ _ Dq32
 have F5:w4.frozen? ⟨w.heap.size+1,5,none⟩=false:=frozen_of_row w4 (w.heap.size+1) 5 _ _ Dq32
 replace Dq32:=hid Dq32
 go_simp
 clear q0 F0 q1 F1 q2 F2 q3 F3 q4 F4 q5 F5
 have FB:=hid (Below.step (Below.step (Below.step b1.out b2.out) b3.out) b4.out)
 have FV:=hid (IsRat.pair (hv3.out.keep b4.out) hv4.out)
 obtain ⟨ue,hw⟩:=eX (((((((w4.setCell ⟨w.heap.size+1,0,none⟩ (.bool (decide (l.num<0)))).setCell ⟨w.heap.size+1,1,none⟩ (.slice C5 (len l.num.natAbs) j5)).setCell ⟨w.heap.size+1,2,none⟩ (.slice C6 (len l.den) j6)).setCell ⟨w.heap.size+1,3,none⟩ (.bool (decide (h.num<0)))).setCell ⟨w.heap.size+1,4,none⟩ (.slice C7 (len h.num.natAbs) j7)).setCell ⟨w.heap.size+1,5,none⟩ (.slice C8 (len h.den) j8)))
 obtain ⟨E_ue,OT,LV,BL⟩:=stored6 Dq32.out hw
 rw [←hw]
 clear hw
 replace E_ue:=hid E_ue
 have FE:=hid (LV.rbox FV.out)
 replace FB:=hid (BL _ _ (by omega) FB.out)
 have HKE:=hk4
 refine hK.out _ _ ?_ (fun hHeld2=>?_)
 · (try dsimp only)
   exact ⟨fun b o hb=>(below_cell (BL (w.heap.size+1) _ (by omega) hk4.2.1)) b o hb,BL (w.heap.size+1) _ (by omega) hk4.2.1,stay_trans hk4.2.2 LV⟩
 clear hK K hHeld OT LV BL HKE
 try simp only [Act.put,lt,ly,lu]
 have hHeld:=hHeld2
 clear hHeld2
 refine wpAnyH_done (by kernel_rfl) ?_ _
 clear hHeld
 obtain ⟨r0,r1,r2,r3,r4,r5⟩:=cells6 E_ue.out
 go_wp2_with fail
 refine bodyPost_ret (v:=.agg #[.bool (decide (l.num<0)),.slice C5 (len l.num.natAbs) j5,.slice C6 (len l.den) j6,.bool (decide (h.num<0)),.slice C7 (len h.num.natAbs) j7,.slice C8 (len h.den) j8]) ?_ rfl ⟨_,rfl,FE.out,FB.out⟩
 simp [results,Tryz.results24,go_sem,r0,r1,r2,r3,r4,r5]
theorem subBoxR_any {w:World} {vx vy:Value} {a b c d l h:Rat} (el:a - d=l) (eh:b - c=h) (hx:IsRBox w vx a b) (hy:IsRBox w vy c d) (sa:siz a≤16777216) (sb:siz b≤16777216) (sc:siz c≤16777216) (sd:siz d≤16777216) :
   Calls Tryz.prog 20 #[vx,vy] w (RBoxRet w l h):=by
 obtain ⟨m,em⟩:=eY (-d:Rat)
 obtain ⟨n,en⟩:=eY (-c:Rat)
 have sm:siz m≤16777216:=by rw [←em,Vx.siz_neg];exact sd
 have sn:siz n≤16777216:=by rw [←en,Vx.siz_neg];exact sc
 rw [Rat.sub_eq_add_neg,em] at el
 rw [Rat.sub_eq_add_neg,en] at eh
 clear sc sd
 replace em:=hid em
 replace en:=hid en
 replace el:=hid el
 replace eh:=hid eh
 replace sa:=hid sa
 replace sb:=hid sb
 replace sm:=hid sm
 replace sn:=hid sn
 obtain ⟨C1,j1,C2,j2,C3,j3,C4,j4,rfl,hxl,hxh⟩:=id hx.opened
 replace hx:=hid hx
 replace hxl:=hid hxl
 replace hxh:=hid hxh
 obtain ⟨C5,j5,C6,j6,C7,j7,C8,j8,rfl,hyl,hyh⟩:=id hy.opened
 replace hy:=hid hy
 replace hyl:=hid hyl
 replace hyh:=hid hyh
 obtain ⟨w1,hw1⟩:=eX ((((w.alloc (.cells #[.bool (decide (a.num<0)),.slice C1 (len a.num.natAbs) j1,.slice C2 (len a.den) j2,.bool (decide (b.num<0)),.slice C3 (len b.num.natAbs) j3,.slice C4 (len b.den) j4] 50)).alloc (.cells #[.bool (decide (c.num<0)),.slice C5 (len c.num.natAbs) j5,.slice C6 (len c.den) j6,.bool (decide (d.num<0)),.slice C7 (len d.num.natAbs) j7,.slice C8 (len d.den) j8] 50)).alloc (.cells #[.bool false,.slice none 0 0,.slice none 0 0,.bool false,.slice none 0 0,.slice none 0 0] 50)))
 obtain ⟨b1,g1,g2,g3⟩:=news3' hw1
 replace g1:=hid g1
 replace g2:=hid g2
 replace g3:=hid g3
 replace b1:=hid b1
 go_enter Tryz.func20,Tryz.ntmps20
 go_upto_region 1 with fail
 rw [←hw1]
 clear hw1
 go_wp2_with fail
 have HSZa:Hid ((w.heap.size+2)≤w1.heap.size):=hid (by have:=at_lt (at_keep g3.out (Below.refl _ w1));omega)
 have hg:w1.heap[w.heap.size]?=some (.cells #[.bool (decide (a.num<0)),.slice C1 (len a.num.natAbs) j1,.slice C2 (len a.den) j2,.bool (decide (b.num<0)),.slice C3 (len b.num.natAbs) j3,.slice C4 (len b.den) j4] 50 (0,0)):=((Below.refl _ w1).block _ (Array.getElem?_eq_some_iff.1 g1.out).1).trans g1.out
 obtain ⟨z_x_0,z_x_1,z_x_2,z_x_3,z_x_4,z_x_5⟩:=cells6 hg
 clear hg
 have hlta_x:w.heap.size<(w.heap.size+2):=by omega
 have hg:w1.heap[w.heap.size+1]?=some (.cells #[.bool (decide (c.num<0)),.slice C5 (len c.num.natAbs) j5,.slice C6 (len c.den) j6,.bool (decide (d.num<0)),.slice C7 (len d.num.natAbs) j7,.slice C8 (len d.den) j8] 50 (0,0)):=((Below.refl _ w1).block _ (Array.getElem?_eq_some_iff.1 g2.out).1).trans g2.out
 obtain ⟨z_y_0,z_y_1,z_y_2,z_y_3,z_y_4,z_y_5⟩:=cells6 hg
 clear hg
 have hlta_y:w.heap.size+1<(w.heap.size+2):=by omega
 have H0:=Held0.start w1 (w.heap.size+2)
 have H0':=H0
 unfold Held0 at H0'
 refine wp_region_held_drew (S:=(fun w'=>(∀ b o,b<(w.heap.size+2)→w'.cell? ⟨b,o,none⟩=w1.cell? ⟨b,o,none⟩)∧Below ((w.heap.size+2)) w1 w'∧Stay w1 w')) (by kernel_rfl) ?_ (fun hHeld=>?_)
 · (try dsimp only)
   exact H0'
 obtain ⟨w2,hw2⟩:=eX w1.drew
 have b2:Hid (Below w1.heap.size w1 w2):=by rw [hw2];exact ⟨rfl,rfl,rfl,Nat.le_refl _,fun _ _=>rfl⟩
 rw [←hw2] at hHeld H0 ⊢
 clear hw2 H0'
 refine tk (i:=0) (h:=?_)
 try simp only [Act.put,lt,ly,lu]
 refine tk (i:=1) (h:=?_)
 try simp only [Act.put,lt,ly,lu]
 refine wpAnyH_ready (rs:=[2]) (by kernel_rfl) (by simp) (AllReadyH.cons (o:=?oq35) ?eq35 ?kq35 AllReadyH.nil)
 case eq35=>simp only [lg,lz,ls];rfl
 intro K hK;go_simp;go_at_call 24
 refine (negBoxR_any em.out en.out (hy.out.keep (Below.step b1.out b2.out))).mono ?_
 rintro e w3 ⟨v3,rfl,hv3,b3⟩
 obtain ⟨C9,j9,C10,j10,C11,j11,C12,j12,rfl,-,-,-,-⟩:=id hv3.opened
 replace hv3:=hid hv3
 replace b3:=hid b3
 have hk3:=hcall_le H0 HSZa b3.out;have hk3':=hk3;unfold Held0 at hk3';clear hHeld H0
 refine hK.out _ _ ?_ (fun hHeld=>?_)
 · (try dsimp only);with_reducible exact hk3'
 clear hK K hk3';try simp only [Act.put,lt,ly,lu]
 refine wpAnyH_ready (rs:=[3]) (by kernel_rfl) (by simp) (AllReadyH.cons (o:=?oq36) ?eq36 ?kq36 AllReadyH.nil)
 case eq36=>simp only [lg,lz,ls];rfl
 intro K hK;go_simp;go_at_call 18
 refine (addBoxR_any el.out eh.out (hx.out.keep (Below.step (Below.step b1.out b2.out) b3.out)) hv3.out sa.out sb.out sm.out sn.out).mono ?_
 rintro e w4 ⟨v4,rfl,hv4,b4⟩
 obtain ⟨C13,j13,C14,j14,C15,j15,C16,j16,rfl,-,-,-,-⟩:=id hv4.opened
 replace hv4:=hid hv4
 replace b4:=hid b4
 have hk4:=hcall_le hk3 HSZa b4.out;have hk4':=hk4;unfold Held0 at hk4';clear hHeld hk3
 refine hK.out _ _ ?_ (fun hHeld=>?_)
 · (try dsimp only);with_reducible exact hk4'
 clear hK K hk4';try simp only [Act.put,lt,ly,lu]
 have Dq37:=(at_keep g3.out (Below.step (Below.step b2.out b3.out) b4.out))
 refine wpAnyH_ready (rs:=[4]) (by kernel_rfl) (by simp) (AllReadyH.cons (o:=?oq37) ?eq37 ?kq37 AllReadyH.nil)
 case eq37=>simp only [lg,lz,ls];rfl
 intro K hK
 have q0:w4.cell? ⟨w.heap.size+2,0,none⟩=some (.bool false):=cell_of_row _ _ _ _ _ _ Dq37
 have F0:w4.frozen? ⟨w.heap.size+2,0,none⟩=false:=frozen_of_row w4 (w.heap.size+2) 0 _ _ Dq37
 have q1:w4.cell? ⟨w.heap.size+2,1,none⟩=some (.slice none 0 0):=cell_of_row _ _ _ _ _ _ Dq37
 have F1:w4.frozen? ⟨w.heap.size+2,1,none⟩=false:=frozen_of_row w4 (w.heap.size+2) 1 _ _ Dq37
 have q2:w4.cell? ⟨w.heap.size+2,2,none⟩=some (.slice none 0 0):=cell_of_row _ _ _ _ _ _ Dq37
 have F2:w4.frozen? ⟨w.heap.size+2,2,none⟩=false:=frozen_of_row w4 (w.heap.size+2) 2 _ _ Dq37
 have q3:w4.cell? ⟨w.heap.size+2,3,none⟩=some (.bool false):=cell_of_row _ _ _ _ _ _ Dq37
 have F3:w4.frozen? ⟨w.heap.size+2,3,none⟩=false:=frozen_of_row w4 (w.heap.size+2) 3 _ _ Dq37
 have q4:w4.cell? ⟨w.heap.size+2,4,none⟩=some (.slice none 0 0):=cell_of_row _ _ _ _ _ _ Dq37
 have F4:w4.frozen? ⟨w.heap.size+2,4,none⟩=false:=frozen_of_row w4 (w.heap.size+2) 4 _ _ Dq37
 have q5:w4.cell? ⟨w.heap.size+2,5,none⟩=some (.slice none 0 0):=cell_of_row _ _ _ _ _ _ Dq37
 have F5:w4.frozen? ⟨w.heap.size+2,5,none⟩=false:=frozen_of_row w4 (w.heap.size+2) 5 _ _ Dq37
 replace Dq37:=hid Dq37
 go_simp
 clear q0 F0 q1 F1 q2 F2 q3 F3 q4 F4 q5 F5
 have FB:=hid (Below.step (Below.step (Below.step b1.out b2.out) b3.out) b4.out)
 have FV:=hid hv4.out
 obtain ⟨ue,hw⟩:=eX (((((((w4.setCell ⟨w.heap.size+2,0,none⟩ (.bool (decide (l.num<0)))).setCell ⟨w.heap.size+2,1,none⟩ (.slice C13 (len l.num.natAbs) j13)).setCell ⟨w.heap.size+2,2,none⟩ (.slice C14 (len l.den) j14)).setCell ⟨w.heap.size+2,3,none⟩ (.bool (decide (h.num<0)))).setCell ⟨w.heap.size+2,4,none⟩ (.slice C15 (len h.num.natAbs) j15)).setCell ⟨w.heap.size+2,5,none⟩ (.slice C16 (len h.den) j16)))
 obtain ⟨E_ue,OT,LV,BL⟩:=stored6 Dq37.out hw
 rw [←hw]
 clear hw
 replace E_ue:=hid E_ue
 have FE:=hid (LV.rbox FV.out)
 replace FB:=hid (BL _ _ (by omega) FB.out)
 have HKE:=hk4
 refine hK.out _ _ ?_ (fun hHeld2=>?_)
 · (try dsimp only)
   exact ⟨fun b o hb=>(below_cell (BL (w.heap.size+2) _ (by omega) hk4.2.1)) b o hb,BL (w.heap.size+2) _ (by omega) hk4.2.1,stay_trans hk4.2.2 LV⟩
 clear hK K hHeld OT LV BL HKE
 try simp only [Act.put,lt,ly,lu]
 have hHeld:=hHeld2
 clear hHeld2
 refine wpAnyH_done (by kernel_rfl) ?_ _
 clear hHeld
 obtain ⟨r0,r1,r2,r3,r4,r5⟩:=cells6 E_ue.out
 go_wp2_with fail
 refine bodyPost_ret (v:=.agg #[.bool (decide (l.num<0)),.slice C13 (len l.num.natAbs) j13,.slice C14 (len l.den) j14,.bool (decide (h.num<0)),.slice C15 (len h.num.natAbs) j15,.slice C16 (len h.den) j16]) ?_ rfl ⟨_,rfl,FE.out,FB.out⟩
 simp [results,Tryz.results20,go_sem,r0,r1,r2,r3,r4,r5]
end Go.Proofs.YtlcimajjnfbidaaGreatDoor.Rf
