/-
  Contracts of the functions that the law calls, for every input (NumF NumG NumH).
-/
import Derived.Test.YtlcimajjnfbidaaGreatDoorZ00
import Derived.Test.YtlcimajjnfbidaaGreatDoorZ11
set_option linter.all false
set_option maxRecDepth 100000
set_option maxHeartbeats 40000000
namespace Go.Proofs.YtlcimajjnfbidaaGreatDoor
open Lib (hid)
open Go.RowKit
open Vx
def AT' (w:World) (n:Int) (e:Ending) (w':World):Prop:=e=.returned (.int .i64 n)∧Below w.heap.size w w'
theorem Bt {w w':World} {a b:Int} (h:a=b) (hb:Below w.heap.size w w'):AT' w b (.returned (.int .i64 a)) w':=⟨by rw [h],hb⟩
theorem AK {w:World} {vx:Value} {x:Rat} (hx:Af w vx x):Calls Tryz.prog 13 #[vx] w (AT' w x.num.sign):=by
 obtain ⟨A1,c1,A2,c2,rfl,hx1,hx2⟩:=hx.opened
 rcases Int.lt_trichotomy x.num 0 with h | h | h
 · have e:x.num.sign = -1:=Int.sign_eq_neg_one_of_neg h
   have hd:decide (x.num<0)=true:=dT_ h
   rw [hd,e]
   clear hd e h hx
   go_enter Tryz.func13,Tryz.ntmps13
   go_wp2_with fail
   go_ret
   exact Bt rfl ((Below.refl _ _).alloc (nL _) _)
 · have e:x.num.sign=0:=by rw [h];rfl
   have hd:decide (x.num<0)=false:=dF_ (by omega)
   have hl:len x.num.natAbs=0:=by rw [h];rfl
   rw [hd,e,hl]
   clear hd e h hx hl
   go_enter Tryz.func13,Tryz.ntmps13
   go_wp2_with fail
   go_ret
   exact Bt rfl ((Below.refl _ _).alloc (nL _) _)
 · have e:x.num.sign=1:=Int.sign_eq_one_of_pos h
   have hd:decide (x.num<0)=false:=dF_ (by omega)
   have hl:=Al'.2 (show 0<x.num.natAbs by omega)
   have hl1:(1:Int)≤((len x.num.natAbs:Nat):Int):=by omega
   rw [hd,e]
   clear hd e h hx
   go_enter Tryz.func13,Tryz.ntmps13
   go_wp2_with fail
   all_goals
     go_ret
     refine Bt ?_ ((Below.refl _ _).alloc (nL _) _)
     omega
theorem Hp' {w:World} {vx:Value} {x:Rat} (hx:Af w vx x) (hs:Aa' x≤1099511627776) (h:x.num<0):Calls Tryz.prog 67 #[vx] w (At' w (-x)):=by
 obtain ⟨A1,c1,A2,c2,rfl,hx1,hx2⟩:=hx.opened
 obtain ⟨wB,hwB⟩:=eX ((w.alloc (.cells #[.bool (decide (x.num<0)),.slice A1 (len x.num.natAbs) c1,.slice A2 (len (below x.den)) c2] 31)).alloc (.cells #[.bool false,.slice none 0 0,.slice none 0 0] 31))
 obtain ⟨b0,gA,gB⟩:=Aq' hwB
 obtain ⟨k0,k1,k2⟩:=Ab' gA
 have HK0:=hid (Ah.start (T:=31) rfl (Au _ _ _ _ _ _ _) gB)
 have HB0:=hid b0
 have hlt1:w.heap.size<w.heap.size+1:=by omega
 clear gA gB b0
 have HX:=fun (w':World) (hk:Below w.heap.size w w')=>hid (AD' (hx.keep hk) hs)
 have HN:Hid (decide ((-x).num<0)=false∧(-x).num.natAbs=x.num.natAbs∧(-x).den=x.den):=⟨by rw [Rat.neg_num];exact dF_ (by omega),by rw [Rat.neg_num,Int.natAbs_neg],Rat.neg_den x⟩
 have Hh:=hid h
 clear h
 clear hx
 go_enter Tryz.func67,Tryz.ntmps67
 go_wp2_with fail
 rw [←hwB]
 clear hwB
 refine ((HX _ HB0.out).out).mono ?_
 rintro e w1 ⟨v1,rfl,hv1,b1⟩
 obtain ⟨B1,e1,B2,e2,rfl,hn1,hn2⟩:=hv1.opened
 have HK1:=hid (HK0.out.call b1)
 have hc1:=Aj (b1.mono (show w.heap.size+1≤_ by have:=HK0.out.block_lt;omega))
 have q0:w1.cell? ⟨w.heap.size,0,none⟩=some (.bool (decide (x.num<0))):=(hc1 _ _ hlt1).trans k0
 have q1:w1.cell? ⟨w.heap.size,1,none⟩=some (.slice A1 (len x.num.natAbs) c1):=(hc1 _ _ hlt1).trans k1
 have hlw:w.heap.size<w1.heap.size:=by have:=HK1.out.block_lt;omega
 go_upto_region 2 with fail
 obtain ⟨wa,hwa⟩:=eX (w1.alloc (.cells #[.bool (decide (x.num<0)),.slice B1 (len x.num.natAbs) e1,.slice B2 (len (below x.den)) e2] 31))
 have ba:Below w1.heap.size w1 wa:=by rw [hwa];exact (Below.refl _ _).alloc (nL _) _
 have ga:wa.heap[w1.heap.size]?=some (.cells #[.bool (decide (x.num<0)),.slice B1 (len x.num.natAbs) e1,.slice B2 (len (below x.den)) e2] 31 (0,0)):=by rw [hwa];exact hA_ w1 _
 have pa0:wa.cell? ⟨w1.heap.size,0,none⟩=some (.bool (decide (x.num<0))):=cR _ _ _ _ _ _ ga
 have fa0:wa.frozen? ⟨w1.heap.size,0,none⟩=false:=fR _ _ 0 _ _ ga
 have qa0:wa.cell? ⟨w.heap.size,0,none⟩=some (.bool (decide (x.num<0))):=(ba.cell (p:=⟨w.heap.size,0,none⟩) hlw).trans q0
 have qa1:wa.cell? ⟨w.heap.size,1,none⟩=some (.slice A1 (len x.num.natAbs) c1):=(ba.cell (p:=⟨w.heap.size,1,none⟩) hlw).trans q1
 have g2:=heap_setCell_same wa _ 0 _ _ (.bool false) ga
 have b2:=ba.setCell (p:=⟨w1.heap.size,0,none⟩) (nL _) (.bool false)
 have HG2:=hid (And.intro g2 b2)
 rw [←hwa]
 clear hc1 k0 k1 k2 b1 HX hx1 hx2 HK0 q0 q1 hwa ba ga g2 b2 hv1
 have h:=Hh.out
 have hd:decide (x.num<0)=true:=dT_ h
 clear h
 go_upto_region 3 with fail
 obtain ⟨w2,hw2⟩:=eX (wa.setCell ⟨w1.heap.size,0,none⟩ (.bool false))
 obtain ⟨g2,b2⟩:=HG2.out
 rw [←hw2] at g2 b2 ⊢
 obtain ⟨p0,p1,p2⟩:=Ab' g2
 have hk:=(HK1.out.call b2).held (Ag'.refl _)
 have hnum:Af w2 (.agg #[.bool false,.slice B1 (len x.num.natAbs) e1,.slice B2 (len (below x.den)) e2]) (-x) :=
   ⟨_,_,by rw [HN.out.1],by rw [HN.out.2.1];exact hn1.keep b2,by rw [HN.out.2.2];exact hn2.keep b2⟩
 clear hw2 g2 b2 qa0 qa1 pa0 fa0
 obtain ⟨-,c0,c1',c2',f0,f1,f2,-⟩:=id hk
 have HD:=hk.done (q := -x) (b:=false) (A1:=B1) (n1:=len x.num.natAbs) (c1:=e1) (A2:=B2) (n2:=len (below x.den)) (c2:=e2) (hnum)
 obtain ⟨d1,d2,d3⟩:=HD
 obtain ⟨r0,r1,r2⟩:=Ab' d3
 have HD:=hid (And.intro d1 d2)
 clear d1 d2 d3
 go_wp2_with fail
 refine bP (v:=.agg #[.bool (false),.slice (B1) (len x.num.natAbs) (e1),.slice (B2) (len (below x.den)) (e2)]) ?_ rfl ⟨_,rfl,HD.out.1,Ae HB0.out (by omega) HD.out.2⟩
 simp [results,Tryz.results67,go_sem,r0,r1,r2]
theorem Hq {w:World} {vx:Value} {x:Rat} (hx:Af w vx x) (hs:Aa' x≤1099511627776) (h:x.num=0):Calls Tryz.prog 67 #[vx] w (At' w (-x)):=by
 obtain ⟨A1,c1,A2,c2,rfl,hx1,hx2⟩:=hx.opened
 obtain ⟨wB,hwB⟩:=eX ((w.alloc (.cells #[.bool (decide (x.num<0)),.slice A1 (len x.num.natAbs) c1,.slice A2 (len (below x.den)) c2] 31)).alloc (.cells #[.bool false,.slice none 0 0,.slice none 0 0] 31))
 obtain ⟨b0,gA,gB⟩:=Aq' hwB
 obtain ⟨k0,k1,k2⟩:=Ab' gA
 have HK0:=hid (Ah.start (T:=31) rfl (Au _ _ _ _ _ _ _) gB)
 have HB0:=hid b0
 have hlt1:w.heap.size<w.heap.size+1:=by omega
 clear gA gB b0
 have HX:=fun (w':World) (hk:Below w.heap.size w w')=>hid (AD' (hx.keep hk) hs)
 have HN:Hid (decide ((-x).num<0)=false∧(-x).num.natAbs=x.num.natAbs∧(-x).den=x.den):=⟨by rw [Rat.neg_num];exact dF_ (by omega),by rw [Rat.neg_num,Int.natAbs_neg],Rat.neg_den x⟩
 have Hh:=hid h
 clear h
 clear hx
 go_enter Tryz.func67,Tryz.ntmps67
 go_wp2_with fail
 rw [←hwB]
 clear hwB
 refine ((HX _ HB0.out).out).mono ?_
 rintro e w1 ⟨v1,rfl,hv1,b1⟩
 obtain ⟨B1,e1,B2,e2,rfl,hn1,hn2⟩:=hv1.opened
 have HK1:=hid (HK0.out.call b1)
 have hc1:=Aj (b1.mono (show w.heap.size+1≤_ by have:=HK0.out.block_lt;omega))
 have q0:w1.cell? ⟨w.heap.size,0,none⟩=some (.bool (decide (x.num<0))):=(hc1 _ _ hlt1).trans k0
 have q1:w1.cell? ⟨w.heap.size,1,none⟩=some (.slice A1 (len x.num.natAbs) c1):=(hc1 _ _ hlt1).trans k1
 have hlw:w.heap.size<w1.heap.size:=by have:=HK1.out.block_lt;omega
 go_upto_region 2 with fail
 obtain ⟨wa,hwa⟩:=eX (w1.alloc (.cells #[.bool (decide (x.num<0)),.slice B1 (len x.num.natAbs) e1,.slice B2 (len (below x.den)) e2] 31))
 have ba:Below w1.heap.size w1 wa:=by rw [hwa];exact (Below.refl _ _).alloc (nL _) _
 have ga:wa.heap[w1.heap.size]?=some (.cells #[.bool (decide (x.num<0)),.slice B1 (len x.num.natAbs) e1,.slice B2 (len (below x.den)) e2] 31 (0,0)):=by rw [hwa];exact hA_ w1 _
 have pa0:wa.cell? ⟨w1.heap.size,0,none⟩=some (.bool (decide (x.num<0))):=cR _ _ _ _ _ _ ga
 have fa0:wa.frozen? ⟨w1.heap.size,0,none⟩=false:=fR _ _ 0 _ _ ga
 have qa0:wa.cell? ⟨w.heap.size,0,none⟩=some (.bool (decide (x.num<0))):=(ba.cell (p:=⟨w.heap.size,0,none⟩) hlw).trans q0
 have qa1:wa.cell? ⟨w.heap.size,1,none⟩=some (.slice A1 (len x.num.natAbs) c1):=(ba.cell (p:=⟨w.heap.size,1,none⟩) hlw).trans q1
 have g2:=heap_setCell_same wa _ 0 _ _ (.bool false) ga
 have b2:=ba.setCell (p:=⟨w1.heap.size,0,none⟩) (nL _) (.bool false)
 have HG2:=hid (And.intro g2 b2)
 rw [←hwa]
 clear hc1 k0 k1 k2 b1 HX hx1 hx2 HK0 q0 q1 hwa ba ga g2 b2 hv1
 have h:=Hh.out
 have hd:decide (x.num<0)=false:=dF_ (by omega)
 have hl:decide (0<len x.num.natAbs)=false:=by rw [h];rfl
 clear h
 go_upto_region 3 with fail
 obtain ⟨w2,hw2⟩:=eX (wa.setCell ⟨w1.heap.size,0,none⟩ (.bool false))
 obtain ⟨g2,b2⟩:=HG2.out
 rw [←hw2] at g2 b2 ⊢
 obtain ⟨p0,p1,p2⟩:=Ab' g2
 have hk:=(HK1.out.call b2).held (Ag'.refl _)
 have hnum:Af w2 (.agg #[.bool false,.slice B1 (len x.num.natAbs) e1,.slice B2 (len (below x.den)) e2]) (-x) :=
   ⟨_,_,by rw [HN.out.1],by rw [HN.out.2.1];exact hn1.keep b2,by rw [HN.out.2.2];exact hn2.keep b2⟩
 clear hw2 g2 b2 qa0 qa1 pa0 fa0
 obtain ⟨-,c0,c1',c2',f0,f1,f2,-⟩:=id hk
 have HD:=hk.done (q := -x) (b:=false) (A1:=B1) (n1:=len x.num.natAbs) (c1:=e1) (A2:=B2) (n2:=len (below x.den)) (c2:=e2) (hnum)
 obtain ⟨d1,d2,d3⟩:=HD
 obtain ⟨r0,r1,r2⟩:=Ab' d3
 have HD:=hid (And.intro d1 d2)
 clear d1 d2 d3
 go_wp2_with fail
 refine bP (v:=.agg #[.bool (false),.slice (B1) (len x.num.natAbs) (e1),.slice (B2) (len (below x.den)) (e2)]) ?_ rfl ⟨_,rfl,HD.out.1,Ae HB0.out (by omega) HD.out.2⟩
 simp [results,Tryz.results67,go_sem,r0,r1,r2]
theorem Hq' {w:World} {vx:Value} {x:Rat} (hx:Af w vx x) (hs:Aa' x≤1099511627776) (h:0<x.num):Calls Tryz.prog 67 #[vx] w (At' w (-x)):=by
 obtain ⟨A1,c1,A2,c2,rfl,hx1,hx2⟩:=hx.opened
 obtain ⟨wB,hwB⟩:=eX ((w.alloc (.cells #[.bool (decide (x.num<0)),.slice A1 (len x.num.natAbs) c1,.slice A2 (len (below x.den)) c2] 31)).alloc (.cells #[.bool false,.slice none 0 0,.slice none 0 0] 31))
 obtain ⟨b0,gA,gB⟩:=Aq' hwB
 obtain ⟨k0,k1,k2⟩:=Ab' gA
 have HK0:=hid (Ah.start (T:=31) rfl (Au _ _ _ _ _ _ _) gB)
 have HB0:=hid b0
 have hlt1:w.heap.size<w.heap.size+1:=by omega
 clear gA gB b0
 have HX:=fun (w':World) (hk:Below w.heap.size w w')=>hid (AD' (hx.keep hk) hs)
 have HN:Hid (decide ((-x).num<0)=true∧(-x).num.natAbs=x.num.natAbs∧(-x).den=x.den):=⟨by rw [Rat.neg_num];exact dT_ (by omega),by rw [Rat.neg_num,Int.natAbs_neg],Rat.neg_den x⟩
 have Hh:=hid h
 clear h
 clear hx
 go_enter Tryz.func67,Tryz.ntmps67
 go_wp2_with fail
 rw [←hwB]
 clear hwB
 refine ((HX _ HB0.out).out).mono ?_
 rintro e w1 ⟨v1,rfl,hv1,b1⟩
 obtain ⟨B1,e1,B2,e2,rfl,hn1,hn2⟩:=hv1.opened
 have HK1:=hid (HK0.out.call b1)
 have hc1:=Aj (b1.mono (show w.heap.size+1≤_ by have:=HK0.out.block_lt;omega))
 have q0:w1.cell? ⟨w.heap.size,0,none⟩=some (.bool (decide (x.num<0))):=(hc1 _ _ hlt1).trans k0
 have q1:w1.cell? ⟨w.heap.size,1,none⟩=some (.slice A1 (len x.num.natAbs) c1):=(hc1 _ _ hlt1).trans k1
 have hlw:w.heap.size<w1.heap.size:=by have:=HK1.out.block_lt;omega
 go_upto_region 2 with fail
 obtain ⟨wa,hwa⟩:=eX (w1.alloc (.cells #[.bool (decide (x.num<0)),.slice B1 (len x.num.natAbs) e1,.slice B2 (len (below x.den)) e2] 31))
 have ba:Below w1.heap.size w1 wa:=by rw [hwa];exact (Below.refl _ _).alloc (nL _) _
 have ga:wa.heap[w1.heap.size]?=some (.cells #[.bool (decide (x.num<0)),.slice B1 (len x.num.natAbs) e1,.slice B2 (len (below x.den)) e2] 31 (0,0)):=by rw [hwa];exact hA_ w1 _
 have pa0:wa.cell? ⟨w1.heap.size,0,none⟩=some (.bool (decide (x.num<0))):=cR _ _ _ _ _ _ ga
 have fa0:wa.frozen? ⟨w1.heap.size,0,none⟩=false:=fR _ _ 0 _ _ ga
 have qa0:wa.cell? ⟨w.heap.size,0,none⟩=some (.bool (decide (x.num<0))):=(ba.cell (p:=⟨w.heap.size,0,none⟩) hlw).trans q0
 have qa1:wa.cell? ⟨w.heap.size,1,none⟩=some (.slice A1 (len x.num.natAbs) c1):=(ba.cell (p:=⟨w.heap.size,1,none⟩) hlw).trans q1
 have g2:=heap_setCell_same wa _ 0 _ _ (.bool true) ga
 have b2:=ba.setCell (p:=⟨w1.heap.size,0,none⟩) (nL _) (.bool true)
 have HG2:=hid (And.intro g2 b2)
 rw [←hwa]
 clear hc1 k0 k1 k2 b1 HX hx1 hx2 HK0 q0 q1 hwa ba ga g2 b2 hv1
 have h:=Hh.out
 have hd:decide (x.num<0)=false:=dF_ (by omega)
 have hl:decide (0<len x.num.natAbs)=true:=dT_ (Al'.2 (show 0<x.num.natAbs by omega))
 clear h
 go_upto_region 3 with fail
 obtain ⟨w2,hw2⟩:=eX (wa.setCell ⟨w1.heap.size,0,none⟩ (.bool true))
 obtain ⟨g2,b2⟩:=HG2.out
 rw [←hw2] at g2 b2 ⊢
 obtain ⟨p0,p1,p2⟩:=Ab' g2
 have hk:=(HK1.out.call b2).held (Ag'.refl _)
 have hnum:Af w2 (.agg #[.bool true,.slice B1 (len x.num.natAbs) e1,.slice B2 (len (below x.den)) e2]) (-x) :=
   ⟨_,_,by rw [HN.out.1],by rw [HN.out.2.1];exact hn1.keep b2,by rw [HN.out.2.2];exact hn2.keep b2⟩
 clear hw2 g2 b2 qa0 qa1 pa0 fa0
 obtain ⟨-,c0,c1',c2',f0,f1,f2,-⟩:=id hk
 have HD:=hk.done (q := -x) (b:=true) (A1:=B1) (n1:=len x.num.natAbs) (c1:=e1) (A2:=B2) (n2:=len (below x.den)) (c2:=e2) (hnum)
 obtain ⟨d1,d2,d3⟩:=HD
 obtain ⟨r0,r1,r2⟩:=Ab' d3
 have HD:=hid (And.intro d1 d2)
 clear d1 d2 d3
 go_wp2_with fail
 refine bP (v:=.agg #[.bool (true),.slice (B1) (len x.num.natAbs) (e1),.slice (B2) (len (below x.den)) (e2)]) ?_ rfl ⟨_,rfl,HD.out.1,Ae HB0.out (by omega) HD.out.2⟩
 simp [results,Tryz.results67,go_sem,r0,r1,r2]
theorem Cl {w:World} {vx:Value} {x:Rat} (hx:Af w vx x) (hs:Aa' x≤1099511627776):Calls Tryz.prog 67 #[vx] w (At' w (-x)):=by
 rcases Int.lt_trichotomy x.num 0 with h | h | h
 · exact Hp' hx hs h
 · exact Hq hx hs h
 · exact Hq' hx hs h
theorem CE (x:Rat):x.abs.num.natAbs=x.num.natAbs∧x.abs.den=x.den∧decide (x.abs.num<0)=false:=by
 unfold Rat.abs
 split
 · rename_i h
   have:=Rat.num_nonneg.2 h
   exact ⟨rfl,rfl,dF_ (by omega)⟩
 · rename_i h
   have h2:¬ 0≤x.num:=fun e=>h (Rat.num_nonneg.1 e)
   refine ⟨by rw [Rat.neg_num,Int.natAbs_neg],rfl,?_⟩
   rw [Rat.neg_num]
   exact dF_ (by omega)
theorem Cl' {w:World} {vx:Value} {x:Rat} (hx:Af w vx x) (hs:Aa' x≤1099511627776):Calls Tryz.prog 70 #[vx] w (At' w (x.abs)):=by
 obtain ⟨A1,c1,A2,c2,rfl,hx1,hx2⟩:=hx.opened
 obtain ⟨wB,hwB⟩:=eX ((w.alloc (.cells #[.bool (decide (x.num<0)),.slice A1 (len x.num.natAbs) c1,.slice A2 (len (below x.den)) c2] 31)).alloc (.cells #[.bool false,.slice none 0 0,.slice none 0 0] 31))
 obtain ⟨b0,gA,gB⟩:=Aq' hwB
 obtain ⟨k0,k1,k2⟩:=Ab' gA
 have HK0:=hid (Ah.start (T:=31) rfl (Au _ _ _ _ _ _ _) gB)
 have HB0:=hid b0
 have hlt1:w.heap.size<w.heap.size+1:=by omega
 clear gA gB b0
 have HX:=fun (w':World) (hk:Below w.heap.size w w')=>hid (AD' (hx.keep hk) hs)
 have HN:Hid (decide ((x.abs).num<0)=false∧(x.abs).num.natAbs=x.num.natAbs∧(x.abs).den=x.den):=⟨(CE x).2.2,(CE x).1,(CE x).2.1⟩
 skip
 skip
 clear hx
 go_enter Tryz.func70,Tryz.ntmps70
 go_wp2_with fail
 rw [←hwB]
 clear hwB
 refine ((HX _ HB0.out).out).mono ?_
 rintro e w1 ⟨v1,rfl,hv1,b1⟩
 obtain ⟨B1,e1,B2,e2,rfl,hn1,hn2⟩:=hv1.opened
 have HK1:=hid (HK0.out.call b1)
 have hc1:=Aj (b1.mono (show w.heap.size+1≤_ by have:=HK0.out.block_lt;omega))
 have q0:w1.cell? ⟨w.heap.size,0,none⟩=some (.bool (decide (x.num<0))):=(hc1 _ _ hlt1).trans k0
 have q1:w1.cell? ⟨w.heap.size,1,none⟩=some (.slice A1 (len x.num.natAbs) c1):=(hc1 _ _ hlt1).trans k1
 have hlw:w.heap.size<w1.heap.size:=by have:=HK1.out.block_lt;omega
 go_upto_region 2 with fail
 obtain ⟨wa,hwa⟩:=eX (w1.alloc (.cells #[.bool (decide (x.num<0)),.slice B1 (len x.num.natAbs) e1,.slice B2 (len (below x.den)) e2] 31))
 have ba:Below w1.heap.size w1 wa:=by rw [hwa];exact (Below.refl _ _).alloc (nL _) _
 have ga:wa.heap[w1.heap.size]?=some (.cells #[.bool (decide (x.num<0)),.slice B1 (len x.num.natAbs) e1,.slice B2 (len (below x.den)) e2] 31 (0,0)):=by rw [hwa];exact hA_ w1 _
 have pa0:wa.cell? ⟨w1.heap.size,0,none⟩=some (.bool (decide (x.num<0))):=cR _ _ _ _ _ _ ga
 have fa0:wa.frozen? ⟨w1.heap.size,0,none⟩=false:=fR _ _ 0 _ _ ga
 have qa0:wa.cell? ⟨w.heap.size,0,none⟩=some (.bool (decide (x.num<0))):=(ba.cell (p:=⟨w.heap.size,0,none⟩) hlw).trans q0
 have qa1:wa.cell? ⟨w.heap.size,1,none⟩=some (.slice A1 (len x.num.natAbs) c1):=(ba.cell (p:=⟨w.heap.size,1,none⟩) hlw).trans q1
 have g2:=heap_setCell_same wa _ 0 _ _ (.bool false) ga
 have b2:=ba.setCell (p:=⟨w1.heap.size,0,none⟩) (nL _) (.bool false)
 have HG2:=hid (And.intro g2 b2)
 rw [←hwa]
 clear hc1 k0 k1 k2 b1 HX hx1 hx2 HK0 q0 q1 hwa ba ga g2 b2 hv1
 go_upto_region 3 with fail
 obtain ⟨w2,hw2⟩:=eX (wa.setCell ⟨w1.heap.size,0,none⟩ (.bool false))
 obtain ⟨g2,b2⟩:=HG2.out
 rw [←hw2] at g2 b2 ⊢
 obtain ⟨p0,p1,p2⟩:=Ab' g2
 have hk:=(HK1.out.call b2).held (Ag'.refl _)
 have hnum:Af w2 (.agg #[.bool false,.slice B1 (len x.num.natAbs) e1,.slice B2 (len (below x.den)) e2]) (x.abs) :=
   ⟨_,_,by rw [HN.out.1],by rw [HN.out.2.1];exact hn1.keep b2,by rw [HN.out.2.2];exact hn2.keep b2⟩
 clear hw2 g2 b2 qa0 qa1 pa0 fa0
 obtain ⟨-,c0,c1',c2',f0,f1,f2,-⟩:=id hk
 have HD:=hk.done (q:=x.abs) (b:=false) (A1:=B1) (n1:=len x.num.natAbs) (c1:=e1) (A2:=B2) (n2:=len (below x.den)) (c2:=e2) (hnum)
 obtain ⟨d1,d2,d3⟩:=HD
 obtain ⟨r0,r1,r2⟩:=Ab' d3
 have HD:=hid (And.intro d1 d2)
 clear d1 d2 d3
 go_wp2_with fail
 refine bP (v:=.agg #[.bool (false),.slice (B1) (len x.num.natAbs) (e1),.slice (B2) (len (below x.den)) (e2)]) ?_ rfl ⟨_,rfl,HD.out.1,Ae HB0.out (by omega) HD.out.2⟩
 simp [results,Tryz.results70,go_sem,r0,r1,r2]
theorem DQ {w:World} {vx vy:Value} {x y:Rat} (hx:Af w vx x) (hy:Af w vy y) (hs:Aa' x≤34359738368) (ht:Aa' y≤34359738368) :
   Calls Tryz.prog 64 #[vx,vy] w (At' w (x - y)):=by
 obtain ⟨A1,c1,A2,c2,rfl,hx1,hx2⟩:=hx.opened
 obtain ⟨A3,c3,A4,c4,rfl,hy1,hy2⟩:=hy.opened
 obtain ⟨wB,hwB⟩:=eX (((w.alloc (.cells #[.bool (decide (x.num<0)),.slice A1 (len x.num.natAbs) c1,.slice A2 (len (below x.den)) c2] 31)).alloc (.cells #[.bool (!decide (y.num<0)),.slice A3 (len y.num.natAbs) c3,.slice A4 (len (below y.den)) c4] 31)).alloc (.cells #[.bool false,.slice none 0 0,.slice none 0 0] 31))
 obtain ⟨b0,gA,gA2,gB⟩:=Au' hwB
 obtain ⟨k0,k1,k2⟩:=Ab' gA
 obtain ⟨k3,k4,k5⟩:=Ab' gA2
 have HK0:=hid (Ah.start (T:=31) rfl (Au _ _ _ _ _ _ _) gB)
 have HB0:=hid b0
 have hlt1:w.heap.size<w.heap.size+2:=by omega
 have hlt2:w.heap.size+1<w.heap.size+2:=by omega
 clear gA gA2 gB b0
 have hy':Bl' wB (.agg #[.bool (!decide (y.num<0)),.slice A3 (len y.num.natAbs) c3,.slice A4 (len (below y.den)) c4]) (!decide (y.num<0)) (-y) :=
   ⟨_,_,rfl,by rw [Rat.neg_num,Int.natAbs_neg,Io,Be],by rw [Rat.neg_num,Int.natAbs_neg];exact hy1.keep HB0.out,by rw [Rat.neg_den];exact hy2.keep HB0.out⟩
 have HX:=hid (Du (hx.keep HB0.out) hy' hs (by rw [Bz];exact ht))
 have hsub:x + -y=x - y:=(Rat.sub_eq_add_neg x y).symm
 rw [hsub] at HX
 clear hsub hx hy
 go_enter Tryz.func64,Tryz.ntmps64
 go_upto_region 2 with fail
 rw [←hwB]
 clear hwB
 go_wp2_with fail
 refine (HX.out).mono ?_
 rintro e w2 ⟨v2,rfl,hv2,b2⟩
 obtain ⟨B1,e1,B2,e2,rfl,-,-⟩:=hv2.opened
 have hk:=(HK0.out.call b2).held (Ag'.refl _)
 obtain ⟨-,c0,c1',c2',f0,f1,f2,-⟩:=id hk
 have HD:=hk.done (q:=x - y) (b:=decide ((x - y).num<0)) (A1:=B1) (n1:=len (x - y).num.natAbs) (c1:=e1) (A2:=B2) (n2:=len (below (x - y).den)) (c2:=e2) (hv2)
 obtain ⟨d1,d2,d3⟩:=HD
 obtain ⟨r0,r1,r2⟩:=Ab' d3
 have HD:=hid (And.intro d1 d2)
 clear d1 d2 d3
 go_wp2_with fail
 refine bP (v:=.agg #[.bool (decide ((x - y).num<0)),.slice (B1) (len (x - y).num.natAbs) (e1),.slice (B2) (len (below (x - y).den)) (e2)]) ?_ rfl ⟨_,rfl,HD.out.1,Ae HB0.out (by omega) HD.out.2⟩
 simp [results,Tryz.results64,go_sem,r0,r1,r2]
def AG (w:World) (q:Rat) (c:Int) (e:Ending) (w':World):Prop:=∃ v,e=.returned (.tuple #[v,.int .i64 c])∧Af w' v q∧Below w.heap.size w w'
theorem Fo' {w:World} {vx vy:Value} {x y:Rat} (hx:Af w vx x) (hy:Af w vy y) (h:y=0) :
   Calls Tryz.prog 125 #[vx,vy] w (AG w 0 10):=by
 obtain ⟨A1,c1,A2,c2,rfl,hx1,hx2⟩:=hx.opened
 obtain ⟨A3,c3,A4,c4,rfl,hy1,hy2⟩:=hy.opened
 obtain ⟨wB,hwB⟩:=eX (((w.alloc (.cells #[.bool (decide (x.num<0)),.slice A1 (len x.num.natAbs) c1,.slice A2 (len (below x.den)) c2] 31)).alloc (.cells #[.bool (decide (y.num<0)),.slice A3 (len y.num.natAbs) c3,.slice A4 (len (below y.den)) c4] 31)).alloc (.cells #[.bool false,.slice none 0 0,.slice none 0 0] 31))
 obtain ⟨b0,gA,gA2,gB⟩:=Au' hwB
 obtain ⟨k0,k1,k2⟩:=Ab' gA
 obtain ⟨k3,k4,k5⟩:=Ab' gA2
 have HK0:=hid (Ah.start (T:=31) rfl (Au _ _ _ _ _ _ _) gB)
 have HB0:=hid b0
 have hlt1:w.heap.size<w.heap.size+2:=by omega
 have hlt2:w.heap.size+1<w.heap.size+2:=by omega
 clear gA gA2 gB b0
 have HX:=fun (w':World) (hk:Below w.heap.size w w')=>hid (AK (hy.keep hk))
 have HE:Hid (y.num.sign=0):=by show _=_;rw [h];rfl
 clear h
 go_enter Tryz.func125,Tryz.ntmps125
 go_wp2_with fail
 rw [←hwB]
 clear hwB
 refine ((HX _ HB0.out).out).mono ?_
 rintro e w1 ⟨rfl,b1⟩
 rw [HE.out]
 have hk:=(HK0.out.call b1).held (Ag'.refl _)
 obtain ⟨-,c0,c1',c2',f0,f1,f2,-⟩:=id hk
 have HD:=hk.done (q:=0) (b:=false) (A1:=none) (n1:=0) (c1:=0) (A2:=none) (n2:=0) (c2:=0) (Ay' _)
 obtain ⟨d1,d2,d3⟩:=HD
 obtain ⟨r0,r1,r2⟩:=Ab' d3
 have HD:=hid (And.intro d1 d2)
 clear d1 d2 d3
 go_wp2_with fail
 refine bP (v:=.tuple #[.agg #[.bool (false),.slice (none) (0) (0),.slice (none) (0) (0)],.int .i64 10]) ?_ rfl ⟨_,rfl,HD.out.1,Ae HB0.out (by omega) HD.out.2⟩
 simp [results,Tryz.results125,go_sem,r0,r1,r2]
theorem F5' {w:World} {vx vy:Value} {x y:Rat} (hx:Af w vx x) (hy:Af w vy y) (hs:Aa' x≤34359738368) (ht:Aa' y≤34359738368) (h:y≠0) :
   Calls Tryz.prog 125 #[vx,vy] w (AG w (x / y) 0):=by
 obtain ⟨A1,c1,A2,c2,rfl,hx1,hx2⟩:=hx.opened
 obtain ⟨A3,c3,A4,c4,rfl,hy1,hy2⟩:=hy.opened
 obtain ⟨wB,hwB⟩:=eX (((w.alloc (.cells #[.bool (decide (x.num<0)),.slice A1 (len x.num.natAbs) c1,.slice A2 (len (below x.den)) c2] 31)).alloc (.cells #[.bool (decide (y.num<0)),.slice A3 (len y.num.natAbs) c3,.slice A4 (len (below y.den)) c4] 31)).alloc (.cells #[.bool false,.slice none 0 0,.slice none 0 0] 31))
 obtain ⟨b0,gA,gA2,gB⟩:=Au' hwB
 obtain ⟨k0,k1,k2⟩:=Ab' gA
 obtain ⟨k3,k4,k5⟩:=Ab' gA2
 have HK0:=hid (Ah.start (T:=31) rfl (Au _ _ _ _ _ _ _) gB)
 have HB0:=hid b0
 have hlt1:w.heap.size<w.heap.size+2:=by omega
 have hlt2:w.heap.size+1<w.heap.size+2:=by omega
 clear gA gA2 gB b0
 have HX:=fun (w':World) (hk:Below w.heap.size w w')=>hid (AK (hy.keep hk))
 have hn:y.num≠0:=fun e=>h (Rat.num_eq_zero.1 e)
 have HE:Hid ((y.num.sign==0)=false):=by
   show _=_
   rw [beq_eq_false_iff_ne]
   intro e
   exact hn (Int.sign_eq_zero_iff_zero.1 e)
 have HP:=hid (GJ y h)
 have HS:Hid (Aa' y⁻¹≤34359738368):=nT (FI y) ht
 have HH:=hid hs
 have hpos:0<y.num.natAbs:=by omega
 clear h hn hs ht
 go_enter Tryz.func125,Tryz.ntmps125
 go_wp2_with fail
 rw [←hwB]
 clear hwB
 refine ((HX _ HB0.out).out).mono ?_
 rintro e w1 ⟨rfl,b1⟩
 have HK1:=hid (HK0.out.call b1)
 have H1:=HK1.out.begin
 have hb1:=Ae HB0.out (by omega) HK1.out.1
 have hx1':=hx.keep hb1
 have hy1':=hy.keep hb1
 have hyt:=hy1.keep hb1
 have hE:=HE.out
 clear HX b1 hb1
 have HX:=fun (w':World) (hk:Ai' wB (w.heap.size+2) w1 w')=>hid (As (hk.stay.num hy1'))
 go_wp2_with fail
 go_region_held3 (fun w'=>(∀ b o,b<w.heap.size+2→w'.cell? ⟨b,o,none⟩=wB.cell? ⟨b,o,none⟩)∧w'.cell? ⟨w.heap.size+2,0,none⟩=some (cur w' ⟨w.heap.size+2,0,none⟩)∧w'.cell? ⟨w.heap.size+2,1,none⟩=some (cur w' ⟨w.heap.size+2,1,none⟩)∧w'.cell? ⟨w.heap.size+2,2,none⟩=some (cur w' ⟨w.heap.size+2,2,none⟩)∧w'.frozen? ⟨w.heap.size+2,0,none⟩=false∧w'.frozen? ⟨w.heap.size+2,1,none⟩=false∧w'.frozen? ⟨w.heap.size+2,2,none⟩=false∧Ah 3 31 wB (w.heap.size+2) w'∧Ag' w1 w')
   (first | exact H1 | exact hk4.store | exact hk4 | exact hk3 | exact hk2)
   (first | (go_at_call 89;refine ((HX _ ?_).out).mono ?_;assumption;rintro e w2 ⟨v2,rfl,hv2,hbl2⟩;have hk2:=Ai'.call (by assumption) hbl2) | (go_at_call 88;refine (Ba' hv2 (hk2.stay _ _ hyt) hpos HP.out.1 HP.out.2).mono ?_;rintro e w3 ⟨v3,rfl,hv3,hbl3⟩;have hk3:=Ai'.call (by assumption) hbl3) | (go_at_call 46;refine (A0' (hk3.stay.num hx1') hv3 HH.out HS.out).mono ?_;rintro e w4 ⟨v4,rfl,hv4,hbl4⟩;obtain ⟨C1,j1,C2,j2,rfl,-,-⟩:=hv4.opened;have hk4:=Ai'.call (by assumption) hbl4))
 rename_i hHl
 clear hHl
 have HD:=hk4.done (q:=x / y) (b:=decide ((x*y⁻¹).num<0)) (A1:=C1) (n1:=len (x*y⁻¹).num.natAbs) (c1:=j1) (A2:=C2) (n2:=len (below (x*y⁻¹).den)) (c2:=j2) (hv4)
 obtain ⟨d1,d2,d3⟩:=HD
 obtain ⟨r0,r1,r2⟩:=Ab' d3
 have HD:=hid (And.intro d1 d2)
 clear d1 d2 d3
 go_wp2_with fail
 refine bP (v:=.tuple #[.agg #[.bool (decide ((x*y⁻¹).num<0)),.slice (C1) (len (x*y⁻¹).num.natAbs) (j1),.slice (C2) (len (below (x*y⁻¹).den)) (j2)],.int .i64 0]) ?_ rfl ⟨_,rfl,HD.out.1,Ae HB0.out (by omega) HD.out.2⟩
 simp [results,Tryz.results125,go_sem,r0,r1,r2]
theorem F6 {w:World} {vx vy:Value} {x y:Rat} (hx:Af w vx x) (hy:Af w vy y) (hs:Aa' x≤34359738368) (ht:Aa' y≤34359738368) :
   Calls Tryz.prog 125 #[vx,vy] w (AG w (x / y) (if y=0 then 10 else 0)):=by
 by_cases h:y=0
 · rw [if_pos h]
   have e:x / y=0:=by rw [h,Rat.div_def,Rat.inv_zero,Rat.mul_zero]
   rw [e]
   exact Fo' hx hy h
 · rw [if_neg h]
   exact F5' hx hy hs ht h
theorem BA' {w:World} {vx vy:Value} {x y:Rat} (hx:Af w vx x) (hy:Af w vy y) (hs:Aa' x≤34359738368) (ht:Aa' y≤34359738368) :
   Calls Tryz.prog 80 #[vx,vy] w (At' w (x / y)):=by
 obtain ⟨A1,c1,A2,c2,rfl,hx1,hx2⟩:=hx.opened
 obtain ⟨A3,c3,A4,c4,rfl,hy1,hy2⟩:=hy.opened
 obtain ⟨wB,hwB⟩:=eX (((w.alloc (.cells #[.bool (decide (x.num<0)),.slice A1 (len x.num.natAbs) c1,.slice A2 (len (below x.den)) c2] 31)).alloc (.cells #[.bool (decide (y.num<0)),.slice A3 (len y.num.natAbs) c3,.slice A4 (len (below y.den)) c4] 31)).alloc (.cells #[.bool false,.slice none 0 0,.slice none 0 0] 31))
 obtain ⟨b0,gA,gA2,gB⟩:=Au' hwB
 obtain ⟨k0,k1,k2⟩:=Ab' gA
 obtain ⟨k3,k4,k5⟩:=Ab' gA2
 have HK0:=hid (Ah.start (T:=31) rfl (Au _ _ _ _ _ _ _) gB)
 have HB0:=hid b0
 have hlt1:w.heap.size<w.heap.size+2:=by omega
 have hlt2:w.heap.size+1<w.heap.size+2:=by omega
 clear gA gA2 gB b0
 have HX:=hid (F6 (hx.keep HB0.out) (hy.keep HB0.out) hs ht)
 obtain ⟨cc,hcc⟩:∃ cc:Int,cc=if y=0 then 10 else 0:=⟨_,rfl⟩
 rw [←hcc] at HX
 clear hcc hx hy
 go_enter Tryz.func80,Tryz.ntmps80
 go_wp2_with fail
 rw [←hwB]
 clear hwB
 refine (HX.out).mono ?_
 rintro e w2 ⟨v2,rfl,hv2,b2⟩
 obtain ⟨B1,e1,B2,e2,rfl,-,-⟩:=hv2.opened
 have HK2:=hid (HK0.out.call b2)
 go_upto_region 2 with fail
 obtain ⟨w3,hw3⟩:=eX (w2.alloc (.cells #[.bool (decide ((x / y).num<0)),.slice B1 (len (x / y).num.natAbs) e1,.slice B2 (len (below (x / y).den)) e2] 31))
 have b3:Below w2.heap.size w2 w3:=by rw [hw3];exact (Below.refl _ _).alloc (nL _) _
 have g3:w3.heap[w2.heap.size]?=some (.cells #[.bool (decide ((x / y).num<0)),.slice B1 (len (x / y).num.natAbs) e1,.slice B2 (len (below (x / y).den)) e2] 31 (0,0)):=by rw [hw3];exact hA_ w2 _
 obtain ⟨p0,p1,p2⟩:=Ab' g3
 have hk:=(HK2.out.call b3).held (Ag'.refl _)
 have hv3:=hv2.keep b3
 rw [←hw3]
 clear hw3 g3 b3 b2 HX k0 k1 k2 k3 k4 k5
 obtain ⟨-,c0,c1',c2',f0,f1,f2,-⟩:=id hk
 have HD:=hk.done (q:=x / y) (b:=decide ((x / y).num<0)) (A1:=B1) (n1:=len (x / y).num.natAbs) (c1:=e1) (A2:=B2) (n2:=len (below (x / y).den)) (c2:=e2) (hv3)
 obtain ⟨d1,d2,d3⟩:=HD
 obtain ⟨r0,r1,r2⟩:=Ab' d3
 have HD:=hid (And.intro d1 d2)
 clear d1 d2 d3
 go_wp2_with fail
 refine bP (v:=.agg #[.bool (decide ((x / y).num<0)),.slice (B1) (len (x / y).num.natAbs) (e1),.slice (B2) (len (below (x / y).den)) (e2)]) ?_ rfl ⟨_,rfl,HD.out.1,Ae HB0.out (by omega) HD.out.2⟩
 simp [results,Tryz.results80,go_sem,r0,r1,r2]
def Ae' (wB:World) (G:Nat) (wS w:World):Prop:=(∀ b o,b<G→w.cell? ⟨b,o,none⟩=wB.cell? ⟨b,o,none⟩)∧Below G wB w∧Ag' wS w
theorem Ae'.call {wB wS w w':World} {G:Nat} (h:Ae' wB G wS w) (hG:G≤wB.heap.size) (hb:Below w.heap.size w w'):Ae' wB G wS w':=by
 have h1:=h.2.1.trans (hb.mono (nT hG h.2.1.size))
 exact ⟨Aj h1,h1,h.2.2.call hb⟩
theorem Ae'.start (w:World) (G:Nat):Ae' w G w w.drew:=by
 have hb:∀ B,Below B w w.drew:=fun B=>⟨rfl,rfl,rfl,nL _,fun _ _=>rfl⟩
 exact ⟨Aj (hb G),hb G,(Ag'.refl w).call (hb _)⟩
theorem Ae'.begin {wB wS w:World} {G:Nat} (h:Below G wB w) (hS:w=wS):Ae' wB G wS w.drew:=by
 subst hS
 have hb:∀ B,Below B w w.drew:=fun B=>⟨rfl,rfl,rfl,nL _,fun _ _=>rfl⟩
 have h1:=h.trans (hb G)
 exact ⟨Aj h1,h1,(Ag'.refl w).call (hb _)⟩
theorem Hr {a b d:Nat} (hd:0<d):Ap (a*d) (b*d)=Ap a b:=by
 unfold Ap
 simp only [Nat.mul_lt_mul_right hd,Nat.mul_right_cancel_iff hd]
theorem Cx {a b:Nat}:(Ap a b==0)=decide (a=b):=by
 unfold Ap
 split
 · rename_i h;rw [dF_ (by omega)];rfl
 · split
   · rename_i h;rw [dT_ h];rfl
   · rename_i h;rw [dF_ h];rfl
theorem Ek' {n:Nat} (h:0<n):2^(bitlen n - 1)≤n∧0<bitlen n:=by
 have e:bitlen n=n.log2+1:=by unfold bitlen;rw [if_neg (by omega)]
 rw [e]
 exact ⟨Nat.log2_self_le (by omega),by omega⟩
theorem El {a d b e:Nat} (hb:0<b) (he:0<e) (h:bitlen a+bitlen d+1<bitlen b+bitlen e):a*d<b*e:=by
 have h1:=CD' a;have h2:=CD' d
 obtain ⟨h3,h5⟩:=Ek' hb;obtain ⟨h4,h6⟩:=Ek' he
 have h7:a*d≤2^bitlen a*2^bitlen d:=Nat.mul_le_mul (Nat.le_of_lt h1) (Nat.le_of_lt h2)
 have h8:2^(bitlen b - 1)*2^(bitlen e - 1)≤b*e:=Nat.mul_le_mul h3 h4
 rw [←Nat.pow_add] at h7 h8
 have h9:(2:Nat)^(bitlen a+bitlen d)<2^(bitlen b - 1+(bitlen e - 1))∨bitlen a+bitlen d=bitlen b - 1+(bitlen e - 1):=by
   rcases Nat.lt_or_ge (bitlen a+bitlen d) (bitlen b - 1+(bitlen e - 1)) with h | h
   · exact .inl (Nat.pow_lt_pow_right (by omega) h)
   · exact .inr (by omega)
 rcases h9 with h9 | h9
 · omega
 · rw [h9] at h7
   have:a*d<2^bitlen a*2^bitlen d:=by
     rcases Nat.eq_zero_or_pos d with h | h
     · subst h;rw [Nat.mul_zero];exact Nat.mul_pos (Nat.two_pow_pos _) (Nat.two_pow_pos _)
     · exact Nat.mul_lt_mul_of_lt_of_le h1 (Nat.le_of_lt h2) (Nat.two_pow_pos _)
   rw [←Nat.pow_add,h9] at this
   omega
theorem AJ {n:Nat} (h:len n≤34359738368):bitlen n≤2199023255552:=by
 have h1:=An' n
 rw [AS,←Nat.pow_mul] at h1
 unfold bitlen
 split
 · omega
 · rename_i h0
   have:=(Nat.log2_lt h0).2 h1
   omega
theorem Fp {w:World} {vx vy:Value} {x y:Rat} (hx:Af w vx x) (hy:Af w vy y) (hs:Aa' x≤34359738368) (ht:Aa' y≤34359738368) (hx0:x≠0) (hy0:y≠0) (h:x.den=y.den) :
   Calls Tryz.prog 124 #[vx,vy] w (AT' w (Ap (x.num.natAbs*y.den) (y.num.natAbs*x.den))):=by
 obtain ⟨A1,c1,A2,c2,rfl,hx1,hx2⟩:=hx.opened
 obtain ⟨A3,c3,A4,c4,rfl,hy1,hy2⟩:=hy.opened
 obtain ⟨wB,hwB⟩:=eX ((w.alloc (.cells #[.bool (decide (x.num<0)),.slice A1 (len x.num.natAbs) c1,.slice A2 (len (below x.den)) c2] 31)).alloc (.cells #[.bool (decide (y.num<0)),.slice A3 (len y.num.natAbs) c3,.slice A4 (len (below y.den)) c4] 31))
 obtain ⟨b0,gA,gA2⟩:=Aq' hwB
 obtain ⟨k0,k1,k2⟩:=Ab' gA
 obtain ⟨k3,k4,k5⟩:=Ab' gA2
 have hsz:wB.heap.size=w.heap.size+2:=by rw [hwB];simp
 have HSZ:=hid hsz
 have HB0:=hid b0
 have hlt1:w.heap.size<w.heap.size+2:=by omega
 have hlt2:w.heap.size+1<w.heap.size+2:=by omega
 clear gA gA2 b0 hsz
 have HX:=fun (w':World) (hk:Ae' wB (w.heap.size+2) wB w')=>hid (As (hx.keep (HB0.out.trans (hk.2.1.mono (by omega)))))
 have HY:=fun (w':World) (hk:Ae' wB (w.heap.size+2) wB w')=>hid (As (hy.keep (HB0.out.trans (hk.2.1.mono (by omega)))))
 have H0:=Ae'.start wB (w.heap.size+2)
 have l1:=Ao x;have l2:=Ao' x;have l3:=Ao y;have l4:=Ao' y
 have HL:=hid (show len x.num.natAbs≤34359738368∧len x.den≤34359738368∧len y.num.natAbs≤34359738368∧len y.den≤34359738368 by omega)
 have n1:0<x.num.natAbs:=by have:x.num≠0:=fun e=>hx0 (Rat.num_eq_zero.1 e);omega
 have n2:0<y.num.natAbs:=by have:y.num≠0:=fun e=>hy0 (Rat.num_eq_zero.1 e);omega
 have n3:0<x.den:=x.den_pos
 have n4:0<y.den:=y.den_pos
 have HH:=hid h
 have htest:Ap x.den y.den=0:=by rw [h];unfold Ap;simp
 clear h
 clear hs ht l1 l2 l3 l4 hx0 hy0
 go_enter Tryz.func124,Tryz.ntmps124
 go_wp2_with fail
 rw [←hwB]
 clear hwB
 go_region_held3 (fun w'=>(∀ b o,b<w.heap.size+2→w'.cell? ⟨b,o,none⟩=wB.cell? ⟨b,o,none⟩)∧Below (w.heap.size+2) wB w'∧Ag' wB w')
   (first | exact H0 | exact hk2 | exact hk1)
   (first | (go_at_call_of 89 (Value.agg #[.bool (decide (x.num<0)),.slice A1 (len x.num.natAbs) c1,.slice A2 (len (below x.den)) c2]);refine ((HX _ ?_).out).mono ?_;assumption;rintro e w1 ⟨vb,rfl,hvb,hbl1⟩;have hk1:=Ae'.call (by assumption) (Nat.le_of_eq HSZ.out.symm) hbl1) | (go_at_call_of 89 (Value.agg #[.bool (decide (y.num<0)),.slice A3 (len y.num.natAbs) c3,.slice A4 (len (below y.den)) c4]);refine ((HY _ ?_).out).mono ?_;assumption;rintro e w2 ⟨vd,rfl,hvd,hbl2⟩;have hk2:=Ae'.call (by assumption) (Nat.le_of_eq HSZ.out.symm) hbl2))
 rename_i hHl
 clear hHl
 have hb2:=hvb.keep hbl2
 have HB2:=hid (HB0.out.trans (hk2.2.1.mono (by omega)))
 have HBB:=hid hk2.2.1
 have hc2:=hk2.1
 have hx2':=hx1.keep HB2.out
 have hy2':=hy1.keep HB2.out
 have HC1:=hid (Bb' hb2 hvd)
 try rw [htest] at HC1
 clear HX HY hbl1 hbl2 hvb hk1 hk2 H0
 have HC2:=fun k=>hid (Bb' (hx2'.drewN k) (hy2'.drewN k))
 have HM:Hid (Ap (x.num.natAbs*y.den) (y.num.natAbs*x.den)=Ap x.num.natAbs y.num.natAbs):=by show _=_;rw [HH.out,Hr n4]
 go_wp2_with fail
 refine (HC1.out).mono ?_
 rintro e w3 ⟨rfl,k,rfl⟩
 go_wp2_with fail
 refine ((HC2 _).out).mono ?_
 rintro e w4 ⟨rfl,k',rfl⟩
 go_wp2_with fail
 go_ret
 exact Bt HM.out.symm (chain HB2.out (Ak _ _))
theorem Fp' {w:World} {vx vy:Value} {x y:Rat} (hx:Af w vx x) (hy:Af w vy y) (hs:Aa' x≤34359738368) (ht:Aa' y≤34359738368) (hx0:x≠0) (hy0:y≠0) (h:x.den≠y.den) (h2:((bitlen x.num.natAbs:Nat):Int)+(bitlen y.den:Nat) - (bitlen y.num.natAbs:Nat) - (bitlen x.den:Nat) < -1) :
   Calls Tryz.prog 124 #[vx,vy] w (AT' w (Ap (x.num.natAbs*y.den) (y.num.natAbs*x.den))):=by
 obtain ⟨A1,c1,A2,c2,rfl,hx1,hx2⟩:=hx.opened
 obtain ⟨A3,c3,A4,c4,rfl,hy1,hy2⟩:=hy.opened
 obtain ⟨wB,hwB⟩:=eX ((w.alloc (.cells #[.bool (decide (x.num<0)),.slice A1 (len x.num.natAbs) c1,.slice A2 (len (below x.den)) c2] 31)).alloc (.cells #[.bool (decide (y.num<0)),.slice A3 (len y.num.natAbs) c3,.slice A4 (len (below y.den)) c4] 31))
 obtain ⟨b0,gA,gA2⟩:=Aq' hwB
 obtain ⟨k0,k1,k2⟩:=Ab' gA
 obtain ⟨k3,k4,k5⟩:=Ab' gA2
 have hsz:wB.heap.size=w.heap.size+2:=by rw [hwB];simp
 have HSZ:=hid hsz
 have HB0:=hid b0
 have hlt1:w.heap.size<w.heap.size+2:=by omega
 have hlt2:w.heap.size+1<w.heap.size+2:=by omega
 clear gA gA2 b0 hsz
 have HX:=fun (w':World) (hk:Ae' wB (w.heap.size+2) wB w')=>hid (As (hx.keep (HB0.out.trans (hk.2.1.mono (by omega)))))
 have HY:=fun (w':World) (hk:Ae' wB (w.heap.size+2) wB w')=>hid (As (hy.keep (HB0.out.trans (hk.2.1.mono (by omega)))))
 have H0:=Ae'.start wB (w.heap.size+2)
 have l1:=Ao x;have l2:=Ao' x;have l3:=Ao y;have l4:=Ao' y
 have HL:=hid (show len x.num.natAbs≤34359738368∧len x.den≤34359738368∧len y.num.natAbs≤34359738368∧len y.den≤34359738368 by omega)
 have n1:0<x.num.natAbs:=by have:x.num≠0:=fun e=>hx0 (Rat.num_eq_zero.1 e);omega
 have n2:0<y.num.natAbs:=by have:y.num≠0:=fun e=>hy0 (Rat.num_eq_zero.1 e);omega
 have n3:0<x.den:=x.den_pos
 have n4:0<y.den:=y.den_pos
 have htest:(Ap x.den y.den==0)=false:=by rw [Cx];exact dF_ h
 clear h
 obtain ⟨p,hp⟩:=eX (bitlen x.num.natAbs)
 obtain ⟨q,hq⟩:=eX (bitlen y.den)
 obtain ⟨r,hr⟩:=eX (bitlen y.num.natAbs)
 obtain ⟨t,ht'⟩:=eX (bitlen x.den)
 have bp:p≤2199023255552:=by rw [hp];exact AJ (by omega)
 have bq:q≤2199023255552:=by rw [hq];exact AJ (by omega)
 have br:r≤2199023255552:=by rw [hr];exact AJ (by omega)
 have bt:t≤2199023255552:=by rw [ht'];exact AJ (by omega)
 have HP0:=hid hp;have HQ0:=hid hq;have HR0:=hid hr;have HT0:=hid ht'
 have hM:Ap (x.num.natAbs*y.den) (y.num.natAbs*x.den) = -1:=by
   have:x.num.natAbs*y.den<y.num.natAbs*x.den:=El n2 n3 (by rw [←hp,←hq,←hr,←ht'] at h2 ⊢;omega)
   exact Bz' this
 rw [←hp,←hq,←hr,←ht'] at h2
 have HM:=hid hM
 clear hp hq hr ht' hM
 clear hs ht l1 l2 l3 l4 hx0 hy0
 go_enter Tryz.func124,Tryz.ntmps124
 go_wp2_with fail
 rw [←hwB]
 clear hwB
 go_region_held3 (fun w'=>(∀ b o,b<w.heap.size+2→w'.cell? ⟨b,o,none⟩=wB.cell? ⟨b,o,none⟩)∧Below (w.heap.size+2) wB w'∧Ag' wB w')
   (first | exact H0 | exact hk2 | exact hk1)
   (first | (go_at_call_of 89 (Value.agg #[.bool (decide (x.num<0)),.slice A1 (len x.num.natAbs) c1,.slice A2 (len (below x.den)) c2]);refine ((HX _ ?_).out).mono ?_;assumption;rintro e w1 ⟨vb,rfl,hvb,hbl1⟩;have hk1:=Ae'.call (by assumption) (Nat.le_of_eq HSZ.out.symm) hbl1) | (go_at_call_of 89 (Value.agg #[.bool (decide (y.num<0)),.slice A3 (len y.num.natAbs) c3,.slice A4 (len (below y.den)) c4]);refine ((HY _ ?_).out).mono ?_;assumption;rintro e w2 ⟨vd,rfl,hvd,hbl2⟩;have hk2:=Ae'.call (by assumption) (Nat.le_of_eq HSZ.out.symm) hbl2))
 rename_i hHl
 clear hHl
 have hb2:=hvb.keep hbl2
 have HB2:=hid (HB0.out.trans (hk2.2.1.mono (by omega)))
 have HBB:=hid hk2.2.1
 have hc2:=hk2.1
 have hx2':=hx1.keep HB2.out
 have hy2':=hy1.keep HB2.out
 have HC1:=hid (Bb' hb2 hvd)
 try rw [htest] at HC1
 clear HX HY hbl1 hbl2 hvb hk1 hk2 H0
 go_wp2_with fail
 refine (HC1.out).mono ?_
 rintro e w3' ⟨rfl,k,rfl⟩
 have hb3:=hb2.drewN k
 have hd3:=hvd.drewN k
 have hx3:=hx2'.drewN k
 have hy3:=hy2'.drewN k
 have HB3:=hid (chain HB2.out (Ak w2 k))
 have HBB3:=hid (HBB.out.trans (show Below (w.heap.size+2) w2 (w2.drewN k) from ⟨rfl,rfl,rfl,nL _,fun _ _=>rfl⟩))
 clear hb2 hvd hx2' hy2' HB2 HBB hc2 HC1
 generalize w2.drewN k=w3 at hb3 hd3 hx3 hy3 HB3 HBB3 ⊢
 have hc3:=Aj HBB3.out
 have H3:=Ae'.begin (wS:=w3) HBB3.out rfl
 have HP:=fun (w':World) (hk:Ae' wB (w.heap.size+2) w3 w')=>hid (AD (hk.2.2 _ _ hx3) (nT HL.out.1 (by decide)))
 have HQ:=fun (w':World) (hk:Ae' wB (w.heap.size+2) w3 w')=>hid (AD (hk.2.2 _ _ hd3) (nT HL.out.2.2.2 (by decide)))
 have HR:=fun (w':World) (hk:Ae' wB (w.heap.size+2) w3 w')=>hid (AD (hk.2.2 _ _ hy3) (nT HL.out.2.2.1 (by decide)))
 have HT:=fun (w':World) (hk:Ae' wB (w.heap.size+2) w3 w')=>hid (AD (hk.2.2 _ _ hb3) (nT HL.out.2.1 (by decide)))
 rw [←HP0.out] at HP
 rw [←HQ0.out] at HQ
 rw [←HR0.out] at HR
 rw [←HT0.out] at HT
 have e1:IntKind.i64.wrap (((p:Nat):Int)+((q:Nat):Int))=((p:Nat):Int)+((q:Nat):Int):=by rw [IntKind.wrap_i64];omega
 have e2:IntKind.i64.wrap (((p:Nat):Int)+((q:Nat):Int) - ((r:Nat):Int))=((p:Nat):Int)+((q:Nat):Int) - ((r:Nat):Int):=by rw [IntKind.wrap_i64];omega
 have e3:IntKind.i64.wrap (((p:Nat):Int)+((q:Nat):Int) - ((r:Nat):Int) - ((t:Nat):Int))=((p:Nat):Int)+((q:Nat):Int) - ((r:Nat):Int) - ((t:Nat):Int):=by rw [IntKind.wrap_i64];omega
 go_wp2_with fail
 go_region_held3 (fun w'=>(∀ b o,b<w.heap.size+2→w'.cell? ⟨b,o,none⟩=wB.cell? ⟨b,o,none⟩)∧Below (w.heap.size+2) wB w'∧Ag' w3 w')
   (first | exact H3 | assumption)
   (first | (go_at_call_of 150 (Value.slice A1 (len x.num.natAbs) c1);refine ((HP _ ?_).out).mono ?_;assumption;rintro e w4 ⟨rfl,rfl⟩) | (go_at_call_of 150 vd;refine ((HQ _ ?_).out).mono ?_;assumption;rintro e w4 ⟨rfl,rfl⟩) | (go_at_call_of 150 (Value.slice A3 (len y.num.natAbs) c3);refine ((HR _ ?_).out).mono ?_;assumption;rintro e w4 ⟨rfl,rfl⟩) | (go_at_call_of 150 vb;refine ((HT _ ?_).out).mono ?_;assumption;rintro e w4 ⟨rfl,rfl⟩))
 rename_i hHl
 generalize w3.drew=w4 at hHl ⊢
 obtain ⟨hc4,hb4,hs4⟩:=hHl
 have hx4:=hs4 _ _ hx3
 have hy4:=hs4 _ _ hy3
 have hvb4:=hs4 _ _ hb3
 have hvd4:=hs4 _ _ hd3
 have HB4:=hid (HB0.out.trans (hb4.mono (by omega)))
 have HBB4:=hid hb4
 clear hc3 hs4 hb4 HP HQ HR HT H3 hx3 hy3 hb3 hd3 HB3 HBB3
 obtain ⟨D,hD⟩:=eX (((p:Nat):Int)+((q:Nat):Int) - ((r:Nat):Int) - ((t:Nat):Int):Int)
 rw [←hD]
 have hD1:D < -1:=by omega
 have HC9:=hid (BO' (w:=w4) D 0)
 have hci:AX' D 0 = -1:=by unfold AX';first | rw [if_pos (by omega)] | rw [if_neg (by omega),if_neg (by omega)]
 rw [hci] at HC9
 clear hci hD e1 e2 e3 h2
 go_wp2_with fail
 refine (HC9.out).mono ?_
 rintro e w5 ⟨rfl,rfl⟩
 go_wp2_with fail
 go_ret
 exact Bt HM.out.symm HB4.out
theorem Fq {w:World} {vx vy:Value} {x y:Rat} (hx:Af w vx x) (hy:Af w vy y) (hs:Aa' x≤34359738368) (ht:Aa' y≤34359738368) (hx0:x≠0) (hy0:y≠0) (h:x.den≠y.den) (h2:1<((bitlen x.num.natAbs:Nat):Int)+(bitlen y.den:Nat) - (bitlen y.num.natAbs:Nat) - (bitlen x.den:Nat)) :
   Calls Tryz.prog 124 #[vx,vy] w (AT' w (Ap (x.num.natAbs*y.den) (y.num.natAbs*x.den))):=by
 obtain ⟨A1,c1,A2,c2,rfl,hx1,hx2⟩:=hx.opened
 obtain ⟨A3,c3,A4,c4,rfl,hy1,hy2⟩:=hy.opened
 obtain ⟨wB,hwB⟩:=eX ((w.alloc (.cells #[.bool (decide (x.num<0)),.slice A1 (len x.num.natAbs) c1,.slice A2 (len (below x.den)) c2] 31)).alloc (.cells #[.bool (decide (y.num<0)),.slice A3 (len y.num.natAbs) c3,.slice A4 (len (below y.den)) c4] 31))
 obtain ⟨b0,gA,gA2⟩:=Aq' hwB
 obtain ⟨k0,k1,k2⟩:=Ab' gA
 obtain ⟨k3,k4,k5⟩:=Ab' gA2
 have hsz:wB.heap.size=w.heap.size+2:=by rw [hwB];simp
 have HSZ:=hid hsz
 have HB0:=hid b0
 have hlt1:w.heap.size<w.heap.size+2:=by omega
 have hlt2:w.heap.size+1<w.heap.size+2:=by omega
 clear gA gA2 b0 hsz
 have HX:=fun (w':World) (hk:Ae' wB (w.heap.size+2) wB w')=>hid (As (hx.keep (HB0.out.trans (hk.2.1.mono (by omega)))))
 have HY:=fun (w':World) (hk:Ae' wB (w.heap.size+2) wB w')=>hid (As (hy.keep (HB0.out.trans (hk.2.1.mono (by omega)))))
 have H0:=Ae'.start wB (w.heap.size+2)
 have l1:=Ao x;have l2:=Ao' x;have l3:=Ao y;have l4:=Ao' y
 have HL:=hid (show len x.num.natAbs≤34359738368∧len x.den≤34359738368∧len y.num.natAbs≤34359738368∧len y.den≤34359738368 by omega)
 have n1:0<x.num.natAbs:=by have:x.num≠0:=fun e=>hx0 (Rat.num_eq_zero.1 e);omega
 have n2:0<y.num.natAbs:=by have:y.num≠0:=fun e=>hy0 (Rat.num_eq_zero.1 e);omega
 have n3:0<x.den:=x.den_pos
 have n4:0<y.den:=y.den_pos
 have htest:(Ap x.den y.den==0)=false:=by rw [Cx];exact dF_ h
 clear h
 obtain ⟨p,hp⟩:=eX (bitlen x.num.natAbs)
 obtain ⟨q,hq⟩:=eX (bitlen y.den)
 obtain ⟨r,hr⟩:=eX (bitlen y.num.natAbs)
 obtain ⟨t,ht'⟩:=eX (bitlen x.den)
 have bp:p≤2199023255552:=by rw [hp];exact AJ (by omega)
 have bq:q≤2199023255552:=by rw [hq];exact AJ (by omega)
 have br:r≤2199023255552:=by rw [hr];exact AJ (by omega)
 have bt:t≤2199023255552:=by rw [ht'];exact AJ (by omega)
 have HP0:=hid hp;have HQ0:=hid hq;have HR0:=hid hr;have HT0:=hid ht'
 have hM:Ap (x.num.natAbs*y.den) (y.num.natAbs*x.den)=1:=by
   have:y.num.natAbs*x.den<x.num.natAbs*y.den:=El n1 n4 (by rw [←hp,←hq,←hr,←ht'] at h2 ⊢;omega)
   unfold Ap
   rw [if_neg (by omega),if_neg (by omega)]
 rw [←hp,←hq,←hr,←ht'] at h2
 have HM:=hid hM
 clear hp hq hr ht' hM
 clear hs ht l1 l2 l3 l4 hx0 hy0
 go_enter Tryz.func124,Tryz.ntmps124
 go_wp2_with fail
 rw [←hwB]
 clear hwB
 go_region_held3 (fun w'=>(∀ b o,b<w.heap.size+2→w'.cell? ⟨b,o,none⟩=wB.cell? ⟨b,o,none⟩)∧Below (w.heap.size+2) wB w'∧Ag' wB w')
   (first | exact H0 | exact hk2 | exact hk1)
   (first | (go_at_call_of 89 (Value.agg #[.bool (decide (x.num<0)),.slice A1 (len x.num.natAbs) c1,.slice A2 (len (below x.den)) c2]);refine ((HX _ ?_).out).mono ?_;assumption;rintro e w1 ⟨vb,rfl,hvb,hbl1⟩;have hk1:=Ae'.call (by assumption) (Nat.le_of_eq HSZ.out.symm) hbl1) | (go_at_call_of 89 (Value.agg #[.bool (decide (y.num<0)),.slice A3 (len y.num.natAbs) c3,.slice A4 (len (below y.den)) c4]);refine ((HY _ ?_).out).mono ?_;assumption;rintro e w2 ⟨vd,rfl,hvd,hbl2⟩;have hk2:=Ae'.call (by assumption) (Nat.le_of_eq HSZ.out.symm) hbl2))
 rename_i hHl
 clear hHl
 have hb2:=hvb.keep hbl2
 have HB2:=hid (HB0.out.trans (hk2.2.1.mono (by omega)))
 have HBB:=hid hk2.2.1
 have hc2:=hk2.1
 have hx2':=hx1.keep HB2.out
 have hy2':=hy1.keep HB2.out
 have HC1:=hid (Bb' hb2 hvd)
 try rw [htest] at HC1
 clear HX HY hbl1 hbl2 hvb hk1 hk2 H0
 go_wp2_with fail
 refine (HC1.out).mono ?_
 rintro e w3' ⟨rfl,k,rfl⟩
 have hb3:=hb2.drewN k
 have hd3:=hvd.drewN k
 have hx3:=hx2'.drewN k
 have hy3:=hy2'.drewN k
 have HB3:=hid (chain HB2.out (Ak w2 k))
 have HBB3:=hid (HBB.out.trans (show Below (w.heap.size+2) w2 (w2.drewN k) from ⟨rfl,rfl,rfl,nL _,fun _ _=>rfl⟩))
 clear hb2 hvd hx2' hy2' HB2 HBB hc2 HC1
 generalize w2.drewN k=w3 at hb3 hd3 hx3 hy3 HB3 HBB3 ⊢
 have hc3:=Aj HBB3.out
 have H3:=Ae'.begin (wS:=w3) HBB3.out rfl
 have HP:=fun (w':World) (hk:Ae' wB (w.heap.size+2) w3 w')=>hid (AD (hk.2.2 _ _ hx3) (nT HL.out.1 (by decide)))
 have HQ:=fun (w':World) (hk:Ae' wB (w.heap.size+2) w3 w')=>hid (AD (hk.2.2 _ _ hd3) (nT HL.out.2.2.2 (by decide)))
 have HR:=fun (w':World) (hk:Ae' wB (w.heap.size+2) w3 w')=>hid (AD (hk.2.2 _ _ hy3) (nT HL.out.2.2.1 (by decide)))
 have HT:=fun (w':World) (hk:Ae' wB (w.heap.size+2) w3 w')=>hid (AD (hk.2.2 _ _ hb3) (nT HL.out.2.1 (by decide)))
 rw [←HP0.out] at HP
 rw [←HQ0.out] at HQ
 rw [←HR0.out] at HR
 rw [←HT0.out] at HT
 have e1:IntKind.i64.wrap (((p:Nat):Int)+((q:Nat):Int))=((p:Nat):Int)+((q:Nat):Int):=by rw [IntKind.wrap_i64];omega
 have e2:IntKind.i64.wrap (((p:Nat):Int)+((q:Nat):Int) - ((r:Nat):Int))=((p:Nat):Int)+((q:Nat):Int) - ((r:Nat):Int):=by rw [IntKind.wrap_i64];omega
 have e3:IntKind.i64.wrap (((p:Nat):Int)+((q:Nat):Int) - ((r:Nat):Int) - ((t:Nat):Int))=((p:Nat):Int)+((q:Nat):Int) - ((r:Nat):Int) - ((t:Nat):Int):=by rw [IntKind.wrap_i64];omega
 go_wp2_with fail
 go_region_held3 (fun w'=>(∀ b o,b<w.heap.size+2→w'.cell? ⟨b,o,none⟩=wB.cell? ⟨b,o,none⟩)∧Below (w.heap.size+2) wB w'∧Ag' w3 w')
   (first | exact H3 | assumption)
   (first | (go_at_call_of 150 (Value.slice A1 (len x.num.natAbs) c1);refine ((HP _ ?_).out).mono ?_;assumption;rintro e w4 ⟨rfl,rfl⟩) | (go_at_call_of 150 vd;refine ((HQ _ ?_).out).mono ?_;assumption;rintro e w4 ⟨rfl,rfl⟩) | (go_at_call_of 150 (Value.slice A3 (len y.num.natAbs) c3);refine ((HR _ ?_).out).mono ?_;assumption;rintro e w4 ⟨rfl,rfl⟩) | (go_at_call_of 150 vb;refine ((HT _ ?_).out).mono ?_;assumption;rintro e w4 ⟨rfl,rfl⟩))
 rename_i hHl
 generalize w3.drew=w4 at hHl ⊢
 obtain ⟨hc4,hb4,hs4⟩:=hHl
 have hx4:=hs4 _ _ hx3
 have hy4:=hs4 _ _ hy3
 have hvb4:=hs4 _ _ hb3
 have hvd4:=hs4 _ _ hd3
 have HB4:=hid (HB0.out.trans (hb4.mono (by omega)))
 have HBB4:=hid hb4
 clear hc3 hs4 hb4 HP HQ HR HT H3 hx3 hy3 hb3 hd3 HB3 HBB3
 obtain ⟨D,hD⟩:=eX (((p:Nat):Int)+((q:Nat):Int) - ((r:Nat):Int) - ((t:Nat):Int):Int)
 rw [←hD]
 have hD1:¬ D < -1∧1<D:=by omega
 obtain ⟨hD2,hD3⟩:=hD1
 have HC9:=hid (BO' (w:=w4) D 0)
 have hci:AX' D 0=1:=by unfold AX';first | rw [if_pos (by omega)] | rw [if_neg (by omega),if_neg (by omega)]
 rw [hci] at HC9
 clear hci hD e1 e2 e3 h2
 go_wp2_with fail
 refine (HC9.out).mono ?_
 rintro e w5 ⟨rfl,rfl⟩
 go_wp2_with fail
 go_ret
 exact Bt HM.out.symm HB4.out
theorem ES' {w:World} {vx vy:Value} {x y:Rat} (hx:Af w vx x) (hy:Af w vy y) (hs:Aa' x≤34359738368) (ht:Aa' y≤34359738368) (hx0:x≠0) (hy0:y≠0) (h:x.den≠y.den) (h2 : -1≤((bitlen x.num.natAbs:Nat):Int)+(bitlen y.den:Nat) - (bitlen y.num.natAbs:Nat) - (bitlen x.den:Nat)∧((bitlen x.num.natAbs:Nat):Int)+(bitlen y.den:Nat) - (bitlen y.num.natAbs:Nat) - (bitlen x.den:Nat)≤1) :
   Calls Tryz.prog 124 #[vx,vy] w (AT' w (Ap (x.num.natAbs*y.den) (y.num.natAbs*x.den))):=by
 obtain ⟨A1,c1,A2,c2,rfl,hx1,hx2⟩:=hx.opened
 obtain ⟨A3,c3,A4,c4,rfl,hy1,hy2⟩:=hy.opened
 obtain ⟨wB,hwB⟩:=eX ((w.alloc (.cells #[.bool (decide (x.num<0)),.slice A1 (len x.num.natAbs) c1,.slice A2 (len (below x.den)) c2] 31)).alloc (.cells #[.bool (decide (y.num<0)),.slice A3 (len y.num.natAbs) c3,.slice A4 (len (below y.den)) c4] 31))
 obtain ⟨b0,gA,gA2⟩:=Aq' hwB
 obtain ⟨k0,k1,k2⟩:=Ab' gA
 obtain ⟨k3,k4,k5⟩:=Ab' gA2
 have hsz:wB.heap.size=w.heap.size+2:=by rw [hwB];simp
 have HSZ:=hid hsz
 have HB0:=hid b0
 have hlt1:w.heap.size<w.heap.size+2:=by omega
 have hlt2:w.heap.size+1<w.heap.size+2:=by omega
 clear gA gA2 b0 hsz
 have HX:=fun (w':World) (hk:Ae' wB (w.heap.size+2) wB w')=>hid (As (hx.keep (HB0.out.trans (hk.2.1.mono (by omega)))))
 have HY:=fun (w':World) (hk:Ae' wB (w.heap.size+2) wB w')=>hid (As (hy.keep (HB0.out.trans (hk.2.1.mono (by omega)))))
 have H0:=Ae'.start wB (w.heap.size+2)
 have l1:=Ao x;have l2:=Ao' x;have l3:=Ao y;have l4:=Ao' y
 have HL:=hid (show len x.num.natAbs≤34359738368∧len x.den≤34359738368∧len y.num.natAbs≤34359738368∧len y.den≤34359738368 by omega)
 have n1:0<x.num.natAbs:=by have:x.num≠0:=fun e=>hx0 (Rat.num_eq_zero.1 e);omega
 have n2:0<y.num.natAbs:=by have:y.num≠0:=fun e=>hy0 (Rat.num_eq_zero.1 e);omega
 have n3:0<x.den:=x.den_pos
 have n4:0<y.den:=y.den_pos
 have htest:(Ap x.den y.den==0)=false:=by rw [Cx];exact dF_ h
 clear h
 obtain ⟨p,hp⟩:=eX (bitlen x.num.natAbs)
 obtain ⟨q,hq⟩:=eX (bitlen y.den)
 obtain ⟨r,hr⟩:=eX (bitlen y.num.natAbs)
 obtain ⟨t,ht'⟩:=eX (bitlen x.den)
 have bp:p≤2199023255552:=by rw [hp];exact AJ (by omega)
 have bq:q≤2199023255552:=by rw [hq];exact AJ (by omega)
 have br:r≤2199023255552:=by rw [hr];exact AJ (by omega)
 have bt:t≤2199023255552:=by rw [ht'];exact AJ (by omega)
 have HP0:=hid hp;have HQ0:=hid hq;have HR0:=hid hr;have HT0:=hid ht'
 rw [←hp,←hq,←hr,←ht'] at h2
 clear hp hq hr ht'
 clear hs ht l1 l2 l3 l4 hx0 hy0
 go_enter Tryz.func124,Tryz.ntmps124
 go_wp2_with fail
 rw [←hwB]
 clear hwB
 go_region_held3 (fun w'=>(∀ b o,b<w.heap.size+2→w'.cell? ⟨b,o,none⟩=wB.cell? ⟨b,o,none⟩)∧Below (w.heap.size+2) wB w'∧Ag' wB w')
   (first | exact H0 | exact hk2 | exact hk1)
   (first | (go_at_call_of 89 (Value.agg #[.bool (decide (x.num<0)),.slice A1 (len x.num.natAbs) c1,.slice A2 (len (below x.den)) c2]);refine ((HX _ ?_).out).mono ?_;assumption;rintro e w1 ⟨vb,rfl,hvb,hbl1⟩;have hk1:=Ae'.call (by assumption) (Nat.le_of_eq HSZ.out.symm) hbl1) | (go_at_call_of 89 (Value.agg #[.bool (decide (y.num<0)),.slice A3 (len y.num.natAbs) c3,.slice A4 (len (below y.den)) c4]);refine ((HY _ ?_).out).mono ?_;assumption;rintro e w2 ⟨vd,rfl,hvd,hbl2⟩;have hk2:=Ae'.call (by assumption) (Nat.le_of_eq HSZ.out.symm) hbl2))
 rename_i hHl
 clear hHl
 have hb2:=hvb.keep hbl2
 have HB2:=hid (HB0.out.trans (hk2.2.1.mono (by omega)))
 have HBB:=hid hk2.2.1
 have hc2:=hk2.1
 have hx2':=hx1.keep HB2.out
 have hy2':=hy1.keep HB2.out
 have HC1:=hid (Bb' hb2 hvd)
 try rw [htest] at HC1
 clear HX HY hbl1 hbl2 hvb hk1 hk2 H0
 go_wp2_with fail
 refine (HC1.out).mono ?_
 rintro e w3' ⟨rfl,k,rfl⟩
 have hb3:=hb2.drewN k
 have hd3:=hvd.drewN k
 have hx3:=hx2'.drewN k
 have hy3:=hy2'.drewN k
 have HB3:=hid (chain HB2.out (Ak w2 k))
 have HBB3:=hid (HBB.out.trans (show Below (w.heap.size+2) w2 (w2.drewN k) from ⟨rfl,rfl,rfl,nL _,fun _ _=>rfl⟩))
 clear hb2 hvd hx2' hy2' HB2 HBB hc2 HC1
 generalize w2.drewN k=w3 at hb3 hd3 hx3 hy3 HB3 HBB3 ⊢
 have hc3:=Aj HBB3.out
 have H3:=Ae'.begin (wS:=w3) HBB3.out rfl
 have HP:=fun (w':World) (hk:Ae' wB (w.heap.size+2) w3 w')=>hid (AD (hk.2.2 _ _ hx3) (nT HL.out.1 (by decide)))
 have HQ:=fun (w':World) (hk:Ae' wB (w.heap.size+2) w3 w')=>hid (AD (hk.2.2 _ _ hd3) (nT HL.out.2.2.2 (by decide)))
 have HR:=fun (w':World) (hk:Ae' wB (w.heap.size+2) w3 w')=>hid (AD (hk.2.2 _ _ hy3) (nT HL.out.2.2.1 (by decide)))
 have HT:=fun (w':World) (hk:Ae' wB (w.heap.size+2) w3 w')=>hid (AD (hk.2.2 _ _ hb3) (nT HL.out.2.1 (by decide)))
 rw [←HP0.out] at HP
 rw [←HQ0.out] at HQ
 rw [←HR0.out] at HR
 rw [←HT0.out] at HT
 have e1:IntKind.i64.wrap (((p:Nat):Int)+((q:Nat):Int))=((p:Nat):Int)+((q:Nat):Int):=by rw [IntKind.wrap_i64];omega
 have e2:IntKind.i64.wrap (((p:Nat):Int)+((q:Nat):Int) - ((r:Nat):Int))=((p:Nat):Int)+((q:Nat):Int) - ((r:Nat):Int):=by rw [IntKind.wrap_i64];omega
 have e3:IntKind.i64.wrap (((p:Nat):Int)+((q:Nat):Int) - ((r:Nat):Int) - ((t:Nat):Int))=((p:Nat):Int)+((q:Nat):Int) - ((r:Nat):Int) - ((t:Nat):Int):=by rw [IntKind.wrap_i64];omega
 go_wp2_with fail
 go_region_held3 (fun w'=>(∀ b o,b<w.heap.size+2→w'.cell? ⟨b,o,none⟩=wB.cell? ⟨b,o,none⟩)∧Below (w.heap.size+2) wB w'∧Ag' w3 w')
   (first | exact H3 | assumption)
   (first | (go_at_call_of 150 (Value.slice A1 (len x.num.natAbs) c1);refine ((HP _ ?_).out).mono ?_;assumption;rintro e w4 ⟨rfl,rfl⟩) | (go_at_call_of 150 vd;refine ((HQ _ ?_).out).mono ?_;assumption;rintro e w4 ⟨rfl,rfl⟩) | (go_at_call_of 150 (Value.slice A3 (len y.num.natAbs) c3);refine ((HR _ ?_).out).mono ?_;assumption;rintro e w4 ⟨rfl,rfl⟩) | (go_at_call_of 150 vb;refine ((HT _ ?_).out).mono ?_;assumption;rintro e w4 ⟨rfl,rfl⟩))
 rename_i hHl
 generalize w3.drew=w4 at hHl ⊢
 obtain ⟨hc4,hb4,hs4⟩:=hHl
 have hx4:=hs4 _ _ hx3
 have hy4:=hs4 _ _ hy3
 have hvb4:=hs4 _ _ hb3
 have hvd4:=hs4 _ _ hd3
 have HB4:=hid (HB0.out.trans (hb4.mono (by omega)))
 have HBB4:=hid hb4
 clear hc3 hs4 hb4 HP HQ HR HT H3 hx3 hy3 hb3 hd3 HB3 HBB3
 obtain ⟨D,hD⟩:=eX (((p:Nat):Int)+((q:Nat):Int) - ((r:Nat):Int) - ((t:Nat):Int):Int)
 rw [←hD]
 have hD2:¬ D < -1:=by omega
 have hD3:¬ 1<D:=by omega
 clear hD e1 e2 e3 h2
 have H4:=Ae'.begin (wS:=w4) HBB4.out rfl
 have HM1:=fun (w':World) (hk:Ae' wB (w.heap.size+2) w4 w')=>hid (AL' (hk.2.2 _ _ hx4) (hk.2.2 _ _ hvd4) (nT HL.out.1 (by decide)) (nT HL.out.2.2.2 (by decide)))
 have HM2:=fun (w':World) (hk:Ae' wB (w.heap.size+2) w4 w')=>hid (AL' (hk.2.2 _ _ hy4) (hk.2.2 _ _ hvb4) (nT HL.out.2.2.1 (by decide)) (nT HL.out.2.1 (by decide)))
 go_wp2_with fail
 go_region_held3 (fun w'=>(∀ b o,b<w.heap.size+2→w'.cell? ⟨b,o,none⟩=wB.cell? ⟨b,o,none⟩)∧Below (w.heap.size+2) wB w'∧Ag' w4 w')
   (first | exact H4 | exact hk7 | exact hk6 | exact hk5)
   (first | (go_at_call_of 92 (Value.slice A1 (len x.num.natAbs) c1);refine ((HM1 _ ?_).out).mono ?_;assumption;rintro e w5 ⟨v5,rfl,hv5,hbl5⟩;have hk5:=Ae'.call (by assumption) (Nat.le_of_eq HSZ.out.symm) hbl5) | (go_at_call_of 92 (Value.slice A3 (len y.num.natAbs) c3);refine ((HM2 _ ?_).out).mono ?_;assumption;rintro e w6 ⟨v6,rfl,hv6,hbl6⟩;have hk6:=Ae'.call (by assumption) (Nat.le_of_eq HSZ.out.symm) hbl6) | (go_at_call 112;refine (Bb' (hv5.keep hbl6) hv6).mono ?_;rintro e w7 ⟨rfl,k7,rfl⟩;have hk7:=Ae'.call (by assumption) (Nat.le_of_eq HSZ.out.symm) (Ak w6 k7)))
 rename_i hHl
 clear hHl
 go_wp2_with fail
 go_ret
 exact Bt rfl (HB0.out.trans (hk7.2.1.mono (by omega)))
theorem Dc {w:World} {vx vy:Value} {x y:Rat} (hx:Af w vx x) (hy:Af w vy y) (hs:Aa' x≤34359738368) (ht:Aa' y≤34359738368) (hx0:x≠0) (hy0:y≠0) :
   Calls Tryz.prog 124 #[vx,vy] w (AT' w (Ap (x.num.natAbs*y.den) (y.num.natAbs*x.den))):=by
 by_cases h:x.den=y.den
 · exact Fp hx hy hs ht hx0 hy0 h
 · rcases Int.lt_or_le (((bitlen x.num.natAbs:Nat):Int)+(bitlen y.den:Nat) - (bitlen y.num.natAbs:Nat) - (bitlen x.den:Nat)) (-1) with h2 | h2
   · exact Fp' hx hy hs ht hx0 hy0 h h2
   · rcases Int.lt_or_le 1 (((bitlen x.num.natAbs:Nat):Int)+(bitlen y.den:Nat) - (bitlen y.num.natAbs:Nat) - (bitlen x.den:Nat)) with h3 | h3
     · exact Fq hx hy hs ht hx0 hy0 h h3
     · exact ES' hx hy hs ht hx0 hy0 h ⟨h2,h3⟩
end Go.Proofs.YtlcimajjnfbidaaGreatDoor
