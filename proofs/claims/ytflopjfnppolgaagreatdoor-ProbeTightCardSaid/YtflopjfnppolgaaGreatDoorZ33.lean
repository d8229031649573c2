/-
  Contracts of the functions that the law calls, for every input (Qc Qg).
-/
import Derived.Test.YtflopjfnppolgaaGreatDoorZ00
import Derived.Test.YtflopjfnppolgaaGreatDoorZ32
import Derived.Test.YtflopjfnppolgaaGreatDoorZ18
set_option linter.all false
set_option maxRecDepth 100000
set_option maxHeartbeats 40000000
namespace Go.Proofs.YtflopjfnppolgaaGreatDoor.Rf
open Lib (hid)
open Go.RowKit
open Rx
open Vx (Aa' Ai Ai')
open List renaming getElem?_toArray → lg, getElem?_cons_zero → lz, getElem?_cons_succ → ls, setIfInBounds_toArray → lt, set_cons_zero → ly, set_cons_succ → lu
theorem Co (x:Rat) (l:List Rat):leastOf x l≤greatestOf x l:=Rat.le_trans ((DE l x).1) ((CJ' l x).1)
theorem EB' {w:World} {b:Nat} {p q:Rat} {T:TypeId} {s1 s2:Bool} {A1 A2 A3 A4:Option Addr} {n1 c1 n2 c2 n3 c3 n4 c4:Nat} (h:w.heap[b]?=some (.cells #[.bool s1,.slice A1 n1 c1,.slice A2 n2 c2,.bool s2,.slice A3 n3 c3,.slice A4 n4 c4] T (0,0)))
   (hp:Ac' w (.agg #[.bool s1,.slice A1 n1 c1,.slice A2 n2 c2]) p) (hq:Ac' w (.agg #[.bool s2,.slice A3 n3 c3,.slice A4 n4 c4]) q):AG w b 0 [p,q]:=by
 obtain ⟨r0,r1,r2,r3,r4,r5⟩:=Aj h
 intro i x hi
 match i with
 | 0=>obtain rfl:=Option.some.inj hi;exact ⟨_,_,_,_,_,_,_,r0,r1,r2,hp⟩
 | 1=>obtain rfl:=Option.some.inj hi;exact ⟨_,_,_,_,_,_,_,r3,r4,r5,hq⟩
 | i+2=>simp at hi
theorem EC {w:World} {b o c n:Nat} {x0 lo hi:Rat} {l:List Rat} (el:leastOf x0 l=lo) (eh:greatestOf x0 l=hi) (hl:AG w b o (x0::l)) (hn:n=l.length+1) (hn2:n≤1000) (hs:∀ y∈x0::l,Aa' y≤16777216) :
   Calls Tryz.prog 79 #[.slice (some ⟨b,o,none⟩) n c] w (Bt' w lo hi):=by
 have hlh:lo≤hi:=by rw [←el,←eh];exact Co _ _
 have slo:Aa' lo≤16777216:=by rw [←el];have:=(BE' x0 l hs l.length).1;rwa [List.take_of_length_le (nL _)] at this
 have shi:Aa' hi≤16777216:=by rw [←eh];have:=(BE' x0 l hs l.length).2;rwa [List.take_of_length_le (nL _)] at this
 replace hn:=hid hn
 replace hl:=hid hl
 replace hs:=hid hs
 replace el:=hid el
 replace eh:=hid eh
 replace hlh:=hid hlh
 replace slo:=hid slo
 replace shi:=hid shi
 obtain ⟨w1,hw1⟩:=eX ((w.alloc (.cells #[.bool false,.slice none 0 0,.slice none 0 0,.bool false,.slice none 0 0,.slice none 0 0] 37)))
 have b1:=Am' w (.cells #[.bool false,.slice none 0 0,.slice none 0 0,.bool false,.slice none 0 0,.slice none 0 0] 37)
 have g1:=hA_ w (.cells #[.bool false,.slice none 0 0,.slice none 0 0,.bool false,.slice none 0 0,.slice none 0 0] 37)
 rw [←hw1] at b1 g1
 replace g1:=hid g1
 replace b1:=hid b1
 go_enter Tryz.func79,Tryz.ntmps79
 go_upto_region 1 with fail
 rw [←hw1]
 clear hw1
 have HX:=hid (FC (c:=c) el.out (hl.out.keep b1.out) hn.out hn2 hs.out)
 go_wp2_with fail
 refine (HX.out).mono ?_
 rintro e w2 ⟨v2,rfl,hv2,b2⟩
 obtain ⟨C1,j1,C2,j2,rfl,-,-⟩:=id hv2.opened
 replace hv2:=hid hv2
 replace b2:=hid b2
 clear HX
 have y0_2:=hid (bS b1.out b2.out)
 have HX:=hid (FC' (c:=c) eh.out (hl.out.keep y0_2.out) hn.out hn2 hs.out)
 go_wp2_with fail
 refine (HX.out).mono ?_
 rintro e w3 ⟨v3,rfl,hv3,b3⟩
 obtain ⟨C3,j3,C4,j4,rfl,-,-⟩:=id hv3.opened
 replace hv3:=hid hv3
 replace b3:=hid b3
 clear HX
 have HX:=hid (Fd (hv2.out.keep b3.out) hv3.out (nT slo.out (by omega)) (nT shi.out (by omega)) hlh.out)
 go_wp2_with fail
 refine (HX.out).mono ?_
 rintro e w4 ⟨v4,rfl,hv4,b4⟩
 obtain ⟨C5,j5,C6,j6,C7,j7,C8,j8,rfl,-,-,-,-⟩:=id hv4.opened
 replace hv4:=hid hv4
 replace b4:=hid b4
 clear HX
 go_upto_region 2 with fail
 obtain ⟨w5,hw5⟩:=eX (w4.alloc (.cells #[.bool (decide (lo.num<0)),.slice C5 (Vx.len lo.num.natAbs) j5,.slice C6 (Vx.len (below lo.den)) j6,.bool (decide (hi.num<0)),.slice C7 (Vx.len hi.num.natAbs) j7,.slice C8 (Vx.len (below hi.den)) j8] 37))
 have b5:=hid (AO' hw5)
 have L5:=hid (AR' hw5)
 rw [←hw5]
 clear hw5
 obtain ⟨z_o_0,z_o_1,z_o_2,z_o_3,z_o_4,z_o_5⟩:=Aj L5.out
 have y1_5:=hid (bS (bS (bS b2.out b3.out) b4.out) b5.out)
 have DR:=(Ab' g1.out y1_5.out)
 have q0:w5.cell? ⟨w.heap.size,0,none⟩=some (.bool false):=cR _ _ _ _ _ _ DR
 have F0:w5.frozen? ⟨w.heap.size,0,none⟩=false:=fR w5 (w.heap.size) 0 _ _ DR
 have q1:w5.cell? ⟨w.heap.size,1,none⟩=some (.slice none 0 0):=cR _ _ _ _ _ _ DR
 have F1:w5.frozen? ⟨w.heap.size,1,none⟩=false:=fR w5 (w.heap.size) 1 _ _ DR
 have q2:w5.cell? ⟨w.heap.size,2,none⟩=some (.slice none 0 0):=cR _ _ _ _ _ _ DR
 have F2:w5.frozen? ⟨w.heap.size,2,none⟩=false:=fR w5 (w.heap.size) 2 _ _ DR
 have q3:w5.cell? ⟨w.heap.size,3,none⟩=some (.bool false):=cR _ _ _ _ _ _ DR
 have F3:w5.frozen? ⟨w.heap.size,3,none⟩=false:=fR w5 (w.heap.size) 3 _ _ DR
 have q4:w5.cell? ⟨w.heap.size,4,none⟩=some (.slice none 0 0):=cR _ _ _ _ _ _ DR
 have F4:w5.frozen? ⟨w.heap.size,4,none⟩=false:=fR w5 (w.heap.size) 4 _ _ DR
 have q5:w5.cell? ⟨w.heap.size,5,none⟩=some (.slice none 0 0):=cR _ _ _ _ _ _ DR
 have F5:w5.frozen? ⟨w.heap.size,5,none⟩=false:=fR w5 (w.heap.size) 5 _ _ DR
 have y0_5:=hid (bS (bS (bS y0_2.out b3.out) b4.out) b5.out)
 have FB:=y0_5.out
 have FV:=(hv4.out.keep b5.out)
 obtain ⟨ue,hw⟩:=eX (((((((w5.setCell ⟨w.heap.size,0,none⟩ (.bool (decide (lo.num<0)))).setCell ⟨w.heap.size,1,none⟩ (.slice C5 (Vx.len lo.num.natAbs) j5)).setCell ⟨w.heap.size,2,none⟩ (.slice C6 (Vx.len (below lo.den)) j6)).setCell ⟨w.heap.size,3,none⟩ (.bool (decide (hi.num<0)))).setCell ⟨w.heap.size,4,none⟩ (.slice C7 (Vx.len hi.num.natAbs) j7)).setCell ⟨w.heap.size,5,none⟩ (.slice C8 (Vx.len (below hi.den)) j8)))
 obtain ⟨E_ue,-,LV,BL⟩:=AF DR hw
 have FE:=hid (LV.box FV)
 replace FB:=hid (BL _ _ (by omega) FB)
 replace E_ue:=hid E_ue
 replace hw:=hid hw
 clear DR FV LV BL
 go_wp2_with fail
 rw [←hw.out]
 obtain ⟨r0,r1,r2,r3,r4,r5⟩:=Aj E_ue.out
 refine bP (v:=.agg #[.bool (decide (lo.num<0)),.slice C5 (Vx.len lo.num.natAbs) j5,.slice C6 (Vx.len (below lo.den)) j6,.bool (decide (hi.num<0)),.slice C7 (Vx.len hi.num.natAbs) j7,.slice C8 (Vx.len (below hi.den)) j8]) ?_ rfl ⟨_,rfl,FE.out,FB.out⟩
 simp [results,Tryz.results79,go_sem,r0,r1,r2,r3,r4,r5]
theorem C2' {w:World} {vx vd:Value} {x d:Rat} (hx:Ac' w vx x) (hd:Ac' w vd d) (sx:Aa' x≤4000000) (sd:Aa' d≤4000000) (h0:0≤d) :
   Calls Tryz.prog 37 #[vx,vd] w (Bt' w (x - d) (x+d)):=by
 obtain ⟨lo,elo⟩:=eY (x - d)
 obtain ⟨hi,ehi⟩:=eY (x+d)
 have slo:Aa' lo≤16777216:=by rw [←elo];have:=Vx.AC' x d;omega
 have shi:Aa' hi≤16777216:=by rw [←ehi];have:=Vx.A9' x d;omega
 have hle:lo≤hi:=by rw [←elo,←ehi];grind
 have el:leastOf lo [hi]=lo:=by unfold leastOf;simp only [List.foldl_cons,List.foldl_nil];rw [if_neg (Rat.not_lt.2 hle)]
 have eh:greatestOf lo [hi]=hi:=by unfold greatestOf;simp only [List.foldl_cons,List.foldl_nil];split <;> grind
 rw [elo,ehi]
 have sx1:=hid (show Aa' x≤536870912 by omega)
 have sd1:=hid (show Aa' d≤536870912 by omega)
 replace elo:=hid elo
 replace ehi:=hid ehi
 replace el:=hid el
 replace eh:=hid eh
 replace slo:=hid slo
 replace shi:=hid shi
 clear hle sx sd
 obtain ⟨C1,j1,C2,j2,rfl,-,-⟩:=id hx.opened
 replace hx:=hid hx
 obtain ⟨C3,j3,C4,j4,rfl,-,-⟩:=id hd.opened
 replace hd:=hid hd
 obtain ⟨w1,hw1⟩:=eX ((((w.alloc (.cells #[.bool (decide (x.num<0)),.slice C1 (Vx.len x.num.natAbs) j1,.slice C2 (Vx.len (below x.den)) j2] 35)).alloc (.cells #[.bool (decide (d.num<0)),.slice C3 (Vx.len d.num.natAbs) j3,.slice C4 (Vx.len (below d.den)) j4] 35)).alloc (.cells #[.bool false,.slice none 0 0,.slice none 0 0,.bool false,.slice none 0 0,.slice none 0 0] 37)))
 obtain ⟨b1,g1,g2,g3⟩:=AC hw1
 replace g1:=hid g1
 replace g2:=hid g2
 replace g3:=hid g3
 replace b1:=hid b1
 go_enter Tryz.func37,Tryz.ntmps37
 go_upto_region 1 with fail
 rw [←hw1]
 clear hw1
 go_wp2_with fail
 have HSZa:Hid ((w.heap.size+2)≤w1.heap.size):=hid (by have:=Al' (Ab' g3.out (Below.refl _ w1));omega)
 obtain ⟨z_x_0,z_x_1,z_x_2⟩:=Ad' g1.out
 have hlta_x:w.heap.size<(w.heap.size+2):=by omega
 obtain ⟨z_d_0,z_d_1,z_d_2⟩:=Ad' g2.out
 have hlta_d:w.heap.size+1<(w.heap.size+2):=by omega
 have H0:=Ah'.start w1 (w.heap.size+2)
 have H0':=H0
 unfold Ah' at H0'
 refine wp_region_held_drew (S:=(fun w'=>(∀ b o,b<(w.heap.size+2)→w'.cell? ⟨b,o,none⟩=w1.cell? ⟨b,o,none⟩)∧Below ((w.heap.size+2)) w1 w'∧An' w1 w')) (by kernel_rfl) ?_ (fun hHeld=>?_)
 · (try dsimp only)
   exact H0'
 obtain ⟨w2,hw2⟩:=eX w1.drew
 have b2:Hid (Below w1.heap.size w1 w2):=by rw [hw2];exact ⟨rfl,rfl,rfl,nL _,fun _ _=>rfl⟩
 rw [←hw2] at hHeld H0 ⊢
 clear hw2 H0'
 refine tk (i:=0) (h:=?_)
 try simp only [Act.put,lt,ly,lu]
 refine tk (i:=1) (h:=?_)
 try simp only [Act.put,lt,ly,lu]
 refine tk (i:=3) (h:=?_)
 try simp only [Act.put,lt,ly,lu]
 refine tk (i:=4) (h:=?_)
 try simp only [Act.put,lt,ly,lu]
 have y0_2:=hid (bS b1.out b2.out)
 refine rdz (i:=2) (h:=fun K hK=>?_);go_simp;go_at_call 21
 refine (Cw' elo.out (hx.out.keep y0_2.out) (hd.out.keep y0_2.out) sx1.out sd1.out).mono ?_
 rintro e w3 ⟨v3,rfl,hv3,b3⟩
 obtain ⟨C5,j5,C6,j6,rfl,-,-⟩:=id hv3.opened
 replace hv3:=hid hv3
 replace b3:=hid b3
 have hk3:=Av' H0 HSZa b3.out;clear hHeld H0
 refine hK.out _ _ (by (try dsimp only);with_reducible exact hun hk3) (fun hHeld=>?_)
 clear hK K;try simp only [Act.put,lt,ly,lu]
 have y0_3:=hid (bS y0_2.out b3.out)
 refine rdz (i:=5) (h:=fun K hK=>?_);go_simp;go_at_call 22
 refine (Ef' ehi.out (hx.out.keep y0_3.out) (hd.out.keep y0_3.out) sx1.out sd1.out).mono ?_
 rintro e w4 ⟨v4,rfl,hv4,b4⟩
 obtain ⟨C7,j7,C8,j8,rfl,-,-⟩:=id hv4.opened
 replace hv4:=hid hv4
 replace b4:=hid b4
 have hk4:=Av' hk3 HSZa b4.out;clear hHeld hk3
 refine hK.out _ _ (by (try dsimp only);with_reducible exact hun hk4) (fun hHeld=>?_)
 clear hK K;try simp only [Act.put,lt,ly,lu]
 refine wpAnyH_ready (rs:=[6]) (by kernel_rfl) (by simp) (AllReadyH.cons (o:=?oz) ?ez ?kz AllReadyH.nil)
 case ez=>simp only [lg,lz,ls];rfl
 intro K hK;go_simp
 obtain ⟨w5,hw5⟩:=eX (w4.alloc (.cells #[.bool (decide (lo.num<0)),.slice C5 (Vx.len lo.num.natAbs) j5,.slice C6 (Vx.len (below lo.den)) j6,.bool (decide (hi.num<0)),.slice C7 (Vx.len hi.num.natAbs) j7,.slice C8 (Vx.len (below hi.den)) j8] 35))
 have b5:=hid (AO' hw5)
 have LR:=hid (AR' hw5)
 rw [←hw5]
 clear hw5
 have HNS:=hid (EB' LR.out ((hv3.out.keep b4.out).keep b5.out) (hv4.out.keep b5.out))
 have hk5:=Av' hk4 HSZa b5.out;clear hHeld hk4
 refine hK.out _ _ (by (try dsimp only);with_reducible exact hun hk5) (fun hHeld=>?_)
 clear hK K;try simp only [Act.put,lt,ly,lu]
 refine rdz (i:=7) (h:=fun K hK=>?_);go_simp;go_at_call 79
 refine (EC (n:=2) el.out eh.out HNS.out rfl (by omega) (by intro y hy;simp only [List.mem_cons,List.not_mem_nil,or_false] at hy;rcases hy with rfl | rfl;exact slo.out;exact shi.out)).mono ?_
 rintro e w6 ⟨v6,rfl,hv6,b6⟩
 obtain ⟨C9,j9,C10,j10,C11,j11,C12,j12,rfl,-,-,-,-⟩:=id hv6.opened
 replace hv6:=hid hv6
 replace b6:=hid b6
 have hk6:=Av' hk5 HSZa b6.out;clear hHeld hk5
 refine hK.out _ _ (by (try dsimp only);with_reducible exact hun hk6) (fun hHeld=>?_)
 clear hK K;try simp only [Act.put,lt,ly,lu]
 have y1_6:=hid (bS (bS (bS (bS b2.out b3.out) b4.out) b5.out) b6.out)
 have Dq8:=(Ab' g3.out y1_6.out)
 refine rdz (i:=8) (h:=fun K hK=>?_)
 have q0:w6.cell? ⟨w.heap.size+2,0,none⟩=some (.bool false):=cR _ _ _ _ _ _ Dq8
 have F0:w6.frozen? ⟨w.heap.size+2,0,none⟩=false:=fR w6 (w.heap.size+2) 0 _ _ Dq8
 have q1:w6.cell? ⟨w.heap.size+2,1,none⟩=some (.slice none 0 0):=cR _ _ _ _ _ _ Dq8
 have F1:w6.frozen? ⟨w.heap.size+2,1,none⟩=false:=fR w6 (w.heap.size+2) 1 _ _ Dq8
 have q2:w6.cell? ⟨w.heap.size+2,2,none⟩=some (.slice none 0 0):=cR _ _ _ _ _ _ Dq8
 have F2:w6.frozen? ⟨w.heap.size+2,2,none⟩=false:=fR w6 (w.heap.size+2) 2 _ _ Dq8
 have q3:w6.cell? ⟨w.heap.size+2,3,none⟩=some (.bool false):=cR _ _ _ _ _ _ Dq8
 have F3:w6.frozen? ⟨w.heap.size+2,3,none⟩=false:=fR w6 (w.heap.size+2) 3 _ _ Dq8
 have q4:w6.cell? ⟨w.heap.size+2,4,none⟩=some (.slice none 0 0):=cR _ _ _ _ _ _ Dq8
 have F4:w6.frozen? ⟨w.heap.size+2,4,none⟩=false:=fR w6 (w.heap.size+2) 4 _ _ Dq8
 have q5:w6.cell? ⟨w.heap.size+2,5,none⟩=some (.slice none 0 0):=cR _ _ _ _ _ _ Dq8
 have F5:w6.frozen? ⟨w.heap.size+2,5,none⟩=false:=fR w6 (w.heap.size+2) 5 _ _ Dq8
 replace Dq8:=hid Dq8
 go_simp
 clear q0 F0 q1 F1 q2 F2 q3 F3 q4 F4 q5 F5
 have y0_6:=hid (bS (bS (bS y0_3.out b4.out) b5.out) b6.out)
 have FB:=hid y0_6.out
 have FV:=hid hv6.out
 obtain ⟨ue,hw⟩:=eX (((((((w6.setCell ⟨w.heap.size+2,0,none⟩ (.bool (decide (lo.num<0)))).setCell ⟨w.heap.size+2,1,none⟩ (.slice C9 (Vx.len lo.num.natAbs) j9)).setCell ⟨w.heap.size+2,2,none⟩ (.slice C10 (Vx.len (below lo.den)) j10)).setCell ⟨w.heap.size+2,3,none⟩ (.bool (decide (hi.num<0)))).setCell ⟨w.heap.size+2,4,none⟩ (.slice C11 (Vx.len hi.num.natAbs) j11)).setCell ⟨w.heap.size+2,5,none⟩ (.slice C12 (Vx.len (below hi.den)) j12)))
 obtain ⟨E_ue,OT,LV,BL⟩:=AF Dq8.out hw
 rw [←hw]
 clear hw
 replace E_ue:=hid E_ue
 have FE:=hid (LV.box FV.out)
 replace FB:=hid (BL _ _ (by omega) FB.out)
 have HKE:=hk6
 refine hK.out _ _ ?_ (fun hHeld2=>?_)
 · (try dsimp only)
   exact ⟨fun b o hb=>(Au (BL (w.heap.size+2) _ (by omega) hk6.2.1)) b o hb,BL (w.heap.size+2) _ (by omega) hk6.2.1,A7' hk6.2.2 LV⟩
 clear hK K hHeld OT LV BL HKE
 try simp only [Act.put,lt,ly,lu]
 have hHeld:=hHeld2
 clear hHeld2
 refine wpAnyH_done (by kernel_rfl) ?_ _
 clear hHeld
 obtain ⟨r0,r1,r2,r3,r4,r5⟩:=Aj E_ue.out
 go_wp2_with fail
 refine bP (v:=.agg #[.bool (decide (lo.num<0)),.slice C9 (Vx.len lo.num.natAbs) j9,.slice C10 (Vx.len (below lo.den)) j10,.bool (decide (hi.num<0)),.slice C11 (Vx.len hi.num.natAbs) j11,.slice C12 (Vx.len (below hi.den)) j12]) ?_ rfl ⟨_,rfl,FE.out,FB.out⟩
 simp [results,Tryz.results37,go_sem,r0,r1,r2,r3,r4,r5]
def AA' (w:World) (v:Value) (a b e:Rat):Prop :=
  ∃ A1 c1 A2 c2 A3 c3 A4 c4 A5 c5 A6 c6,v=.agg #[.bool (decide (a.num<0)),.slice A1 (Vx.len a.num.natAbs) c1,.slice A2 (Vx.len (below a.den)) c2,.bool (decide (b.num<0)),.slice A3 (Vx.len b.num.natAbs) c3,.slice A4 (Vx.len (below b.den)) c4,.bool (decide (e.num<0)),.slice A5 (Vx.len e.num.natAbs) c5,.slice A6 (Vx.len (below e.den)) c6] ∧
    Ao' w (.agg #[.bool (decide (a.num<0)),.slice A1 (Vx.len a.num.natAbs) c1,.slice A2 (Vx.len (below a.den)) c2,.bool (decide (b.num<0)),.slice A3 (Vx.len b.num.natAbs) c3,.slice A4 (Vx.len (below b.den)) c4]) a b∧Ac' w (.agg #[.bool (decide (e.num<0)),.slice A5 (Vx.len e.num.natAbs) c5,.slice A6 (Vx.len (below e.den)) c6]) e
theorem AA'.opened {w:World} {v:Value} {a b e:Rat} (h:AA' w v a b e):∃ A1 c1 A2 c2 A3 c3 A4 c4 A5 c5 A6 c6,v=.agg #[.bool (decide (a.num<0)),.slice A1 (Vx.len a.num.natAbs) c1,.slice A2 (Vx.len (below a.den)) c2,.bool (decide (b.num<0)),.slice A3 (Vx.len b.num.natAbs) c3,.slice A4 (Vx.len (below b.den)) c4,.bool (decide (e.num<0)),.slice A5 (Vx.len e.num.natAbs) c5,.slice A6 (Vx.len (below e.den)) c6] ∧
   Ao' w (.agg #[.bool (decide (a.num<0)),.slice A1 (Vx.len a.num.natAbs) c1,.slice A2 (Vx.len (below a.den)) c2,.bool (decide (b.num<0)),.slice A3 (Vx.len b.num.natAbs) c3,.slice A4 (Vx.len (below b.den)) c4]) a b∧Ac' w (.agg #[.bool (decide (e.num<0)),.slice A5 (Vx.len e.num.natAbs) c5,.slice A6 (Vx.len (below e.den)) c6]) e:=h
theorem AA'.keep {w w':World} {v:Value} {a b e:Rat} (h:AA' w v a b e) (hb:Below w.heap.size w w'):AA' w' v a b e:=by
 obtain ⟨A1,c1,A2,c2,A3,c3,A4,c4,A5,c5,A6,c6,h1,h2,h3⟩:=h
 exact ⟨A1,c1,A2,c2,A3,c3,A4,c4,A5,c5,A6,c6,h1,h2.keep hb,h3.keep hb⟩
def Ar' (a b e:Rat):Prop:=0<a∧b≤1∧0≤e
theorem Ca' {w:World} {b:Bool}:Calls Tryz.prog 53 #[.bool b] w (fun e w'=>e=.returned (.int .i64 (if b then 0 else 2))∧Below w.heap.size w w'):=by
 cases b <;> (go_enter Tryz.func53,Tryz.ntmps53;go_wp2_with fail;go_ret;exact ⟨rfl,Below.refl _ _⟩)
theorem Gm' {w:World} {y n:Bool}:Calls Tryz.prog 40 #[.bool y,.bool n] w (fun e w'=>e=.returned (.int .u8 (if y then 1 else if n then 2 else 3))∧Below w.heap.size w w'):=by
 cases y <;> cases n <;> (go_enter Tryz.func40,Tryz.ntmps40;go_wp2_with fail;go_ret;exact ⟨rfl,Below.refl _ _⟩)
theorem Cl {q:Rat} (h:0<q):0<q.num:=by
 have h1:=Rat.num_nonneg.2 (Rat.le_of_lt h)
 rcases Int.lt_or_eq_of_le h1 with h2 | h2
 · exact h2
 · have:=Rat.num_eq_zero.1 h2.symm;grind
theorem AE' {w:World} {n:Int} {q:Rat} (hq:((n:Int):Rat)=q) (h1 : -9223372036854775808≤n) (h2:n≤9223372036854775807):Calls Tryz.prog 18 #[.int .i64 n] w (Az' w q):=hq ▸ Eu n h1 h2
def FS (w:World) (e:Ending) (w':World):Prop:=e=.returned (.int .i64 0)∧Below w.heap.size w w'
theorem Bu' {w:World} {v:Value} {a b r:Rat} (hp:AA' w v a b r) (hg:Ar' a b r) (sa:Aa' a≤16777216) (sb:Aa' b≤16777216) :
   Calls Tryz.prog 16 #[v] w (FS w):=by
 obtain ⟨o,eo⟩:=eY (((1:Int):Rat):Rat)
 have ha1:a.num.sign=1:=Int.sign_eq_one_of_pos (Cl hg.1)
 have hb1:cmpQ b o≤0:=by rw [←eo];exact Int.not_lt.1 (Cc' hg.2.1)
 have hr1:0≤r.num.sign:=Int.sign_nonneg_iff.2 (Rat.num_nonneg.2 hg.2.2)
 obtain ⟨c1,ec1⟩:=eY (cmpQ b o:Int)
 obtain ⟨c2,ec2⟩:=eY (r.num.sign:Int)
 rw [ec1] at hb1
 rw [ec2] at hr1
 have d1:decide (c1≤0)=true:=dT_ hb1
 have d2:decide (c2≥0)=true:=dT_ hr1
 have so:Aa' o≤3:=by rw [←eo];decide
 replace ha1:=hid ha1
 replace eo:=hid eo
 replace ec1:=hid ec1
 replace ec2:=hid ec2
 replace so:=hid so
 replace sa:=hid sa
 replace sb:=hid sb
 obtain ⟨C1,j1,C2,j2,C3,j3,C4,j4,C5,j5,C6,j6,rfl,hpg,hpe⟩:=id hp.opened
 replace hp:=hid hp
 replace hpg:=hid hpg
 replace hpe:=hid hpe
 obtain ⟨w1,hw1⟩:=eX ((w.alloc (.cells #[.bool (decide (a.num<0)),.slice C1 (Vx.len a.num.natAbs) j1,.slice C2 (Vx.len (below a.den)) j2,.bool (decide (b.num<0)),.slice C3 (Vx.len b.num.natAbs) j3,.slice C4 (Vx.len (below b.den)) j4,.bool (decide (r.num<0)),.slice C5 (Vx.len r.num.natAbs) j5,.slice C6 (Vx.len (below r.den)) j6] 39)))
 have b1:=Am' w (.cells #[.bool (decide (a.num<0)),.slice C1 (Vx.len a.num.natAbs) j1,.slice C2 (Vx.len (below a.den)) j2,.bool (decide (b.num<0)),.slice C3 (Vx.len b.num.natAbs) j3,.slice C4 (Vx.len (below b.den)) j4,.bool (decide (r.num<0)),.slice C5 (Vx.len r.num.natAbs) j5,.slice C6 (Vx.len (below r.den)) j6] 39)
 have g1:=hA_ w (.cells #[.bool (decide (a.num<0)),.slice C1 (Vx.len a.num.natAbs) j1,.slice C2 (Vx.len (below a.den)) j2,.bool (decide (b.num<0)),.slice C3 (Vx.len b.num.natAbs) j3,.slice C4 (Vx.len (below b.den)) j4,.bool (decide (r.num<0)),.slice C5 (Vx.len r.num.natAbs) j5,.slice C6 (Vx.len (below r.den)) j6] 39)
 rw [←hw1] at b1 g1
 replace g1:=hid g1
 replace b1:=hid b1
 go_enter Tryz.func16,Tryz.ntmps16
 go_upto_region 1 with fail
 rw [←hw1]
 clear hw1
 have hg:w1.heap[w.heap.size]?=some (.cells #[.bool (decide (a.num<0)),.slice C1 (Vx.len a.num.natAbs) j1,.slice C2 (Vx.len (below a.den)) j2,.bool (decide (b.num<0)),.slice C3 (Vx.len b.num.natAbs) j3,.slice C4 (Vx.len (below b.den)) j4,.bool (decide (r.num<0)),.slice C5 (Vx.len r.num.natAbs) j5,.slice C6 (Vx.len (below r.den)) j6] 39 (0,0)):=((Below.refl _ w1).block _ (gE.1 g1.out).1).trans g1.out
 have z_p_0:w1.cell? ⟨w.heap.size,0,none⟩=some (.bool (decide (a.num<0))):=cR _ _ _ _ _ _ hg
 have z_p_1:w1.cell? ⟨w.heap.size,1,none⟩=some (.slice C1 (Vx.len a.num.natAbs) j1):=cR _ _ _ _ _ _ hg
 have z_p_2:w1.cell? ⟨w.heap.size,2,none⟩=some (.slice C2 (Vx.len (below a.den)) j2):=cR _ _ _ _ _ _ hg
 have z_p_3:w1.cell? ⟨w.heap.size,3,none⟩=some (.bool (decide (b.num<0))):=cR _ _ _ _ _ _ hg
 have z_p_4:w1.cell? ⟨w.heap.size,4,none⟩=some (.slice C3 (Vx.len b.num.natAbs) j3):=cR _ _ _ _ _ _ hg
 have z_p_5:w1.cell? ⟨w.heap.size,5,none⟩=some (.slice C4 (Vx.len (below b.den)) j4):=cR _ _ _ _ _ _ hg
 have z_p_6:w1.cell? ⟨w.heap.size,6,none⟩=some (.bool (decide (r.num<0))):=cR _ _ _ _ _ _ hg
 have z_p_7:w1.cell? ⟨w.heap.size,7,none⟩=some (.slice C5 (Vx.len r.num.natAbs) j5):=cR _ _ _ _ _ _ hg
 have z_p_8:w1.cell? ⟨w.heap.size,8,none⟩=some (.slice C6 (Vx.len (below r.den)) j6):=cR _ _ _ _ _ _ hg
 clear hg
 have HX:=hid (Bm' (hpg.out.keep b1.out) (nT sa.out (by omega)))
 go_wp2_with fail
 refine (HX.out).mono ?_
 rintro e w2 ⟨v2,rfl,hv2,b2⟩
 obtain ⟨C7,j7,C8,j8,rfl,-,-⟩:=id hv2.opened
 replace hv2:=hid hv2
 replace b2:=hid b2
 clear HX
 have HX:=hid (Bc ha1.out hv2.out)
 go_wp2_with fail
 refine (HX.out).mono ?_
 rintro e w3 ⟨rfl,b3⟩
 replace b3:=hid b3
 clear HX
 have y1_3:=hid (bS b2.out b3.out)
 have hg:w3.heap[w.heap.size]?=some (.cells #[.bool (decide (a.num<0)),.slice C1 (Vx.len a.num.natAbs) j1,.slice C2 (Vx.len (below a.den)) j2,.bool (decide (b.num<0)),.slice C3 (Vx.len b.num.natAbs) j3,.slice C4 (Vx.len (below b.den)) j4,.bool (decide (r.num<0)),.slice C5 (Vx.len r.num.natAbs) j5,.slice C6 (Vx.len (below r.den)) j6] 39 (0,0)):=(y1_3.out.block _ (gE.1 g1.out).1).trans g1.out
 have z_p_0:w3.cell? ⟨w.heap.size,0,none⟩=some (.bool (decide (a.num<0))):=cR _ _ _ _ _ _ hg
 have z_p_1:w3.cell? ⟨w.heap.size,1,none⟩=some (.slice C1 (Vx.len a.num.natAbs) j1):=cR _ _ _ _ _ _ hg
 have z_p_2:w3.cell? ⟨w.heap.size,2,none⟩=some (.slice C2 (Vx.len (below a.den)) j2):=cR _ _ _ _ _ _ hg
 have z_p_3:w3.cell? ⟨w.heap.size,3,none⟩=some (.bool (decide (b.num<0))):=cR _ _ _ _ _ _ hg
 have z_p_4:w3.cell? ⟨w.heap.size,4,none⟩=some (.slice C3 (Vx.len b.num.natAbs) j3):=cR _ _ _ _ _ _ hg
 have z_p_5:w3.cell? ⟨w.heap.size,5,none⟩=some (.slice C4 (Vx.len (below b.den)) j4):=cR _ _ _ _ _ _ hg
 have z_p_6:w3.cell? ⟨w.heap.size,6,none⟩=some (.bool (decide (r.num<0))):=cR _ _ _ _ _ _ hg
 have z_p_7:w3.cell? ⟨w.heap.size,7,none⟩=some (.slice C5 (Vx.len r.num.natAbs) j5):=cR _ _ _ _ _ _ hg
 have z_p_8:w3.cell? ⟨w.heap.size,8,none⟩=some (.slice C6 (Vx.len (below r.den)) j6):=cR _ _ _ _ _ _ hg
 clear hg
 have y0_3:=hid (bS (bS b1.out b2.out) b3.out)
 have HX:=hid (BJ' (hpg.out.keep y0_3.out) (nT sb.out (by omega)))
 go_wp2_with fail
 refine (HX.out).mono ?_
 rintro e w4 ⟨v4,rfl,hv4,b4⟩
 obtain ⟨C9,j9,C10,j10,rfl,-,-⟩:=id hv4.opened
 replace hv4:=hid hv4
 replace b4:=hid b4
 clear HX
 have HX:=hid (AE' (w:=w4) eo.out (by omega) (by omega))
 go_wp2_with fail
 refine (HX.out).mono ?_
 rintro e w5 ⟨v5,rfl,hv5,b5⟩
 obtain ⟨C11,j11,C12,j12,rfl,-,-⟩:=id hv5.opened
 replace hv5:=hid hv5
 replace b5:=hid b5
 clear HX
 have HX:=hid (Bf' ec1.out (hv4.out.keep b5.out) hv5.out (nT sb.out (by omega)) (nT so.out (by omega)))
 go_wp2_with fail
 refine (HX.out).mono ?_
 rintro e w6 ⟨rfl,b6⟩
 replace b6:=hid b6
 clear HX
 have y1_6:=hid (bS (bS (bS y1_3.out b4.out) b5.out) b6.out)
 have hg:w6.heap[w.heap.size]?=some (.cells #[.bool (decide (a.num<0)),.slice C1 (Vx.len a.num.natAbs) j1,.slice C2 (Vx.len (below a.den)) j2,.bool (decide (b.num<0)),.slice C3 (Vx.len b.num.natAbs) j3,.slice C4 (Vx.len (below b.den)) j4,.bool (decide (r.num<0)),.slice C5 (Vx.len r.num.natAbs) j5,.slice C6 (Vx.len (below r.den)) j6] 39 (0,0)):=(y1_6.out.block _ (gE.1 g1.out).1).trans g1.out
 have z_p_0:w6.cell? ⟨w.heap.size,0,none⟩=some (.bool (decide (a.num<0))):=cR _ _ _ _ _ _ hg
 have z_p_1:w6.cell? ⟨w.heap.size,1,none⟩=some (.slice C1 (Vx.len a.num.natAbs) j1):=cR _ _ _ _ _ _ hg
 have z_p_2:w6.cell? ⟨w.heap.size,2,none⟩=some (.slice C2 (Vx.len (below a.den)) j2):=cR _ _ _ _ _ _ hg
 have z_p_3:w6.cell? ⟨w.heap.size,3,none⟩=some (.bool (decide (b.num<0))):=cR _ _ _ _ _ _ hg
 have z_p_4:w6.cell? ⟨w.heap.size,4,none⟩=some (.slice C3 (Vx.len b.num.natAbs) j3):=cR _ _ _ _ _ _ hg
 have z_p_5:w6.cell? ⟨w.heap.size,5,none⟩=some (.slice C4 (Vx.len (below b.den)) j4):=cR _ _ _ _ _ _ hg
 have z_p_6:w6.cell? ⟨w.heap.size,6,none⟩=some (.bool (decide (r.num<0))):=cR _ _ _ _ _ _ hg
 have z_p_7:w6.cell? ⟨w.heap.size,7,none⟩=some (.slice C5 (Vx.len r.num.natAbs) j5):=cR _ _ _ _ _ _ hg
 have z_p_8:w6.cell? ⟨w.heap.size,8,none⟩=some (.slice C6 (Vx.len (below r.den)) j6):=cR _ _ _ _ _ _ hg
 clear hg
 have y0_6:=hid (bS (bS (bS y0_3.out b4.out) b5.out) b6.out)
 have HX:=hid (Bc ec2.out (hpe.out.keep y0_6.out))
 go_wp2_with fail
 refine (HX.out).mono ?_
 rintro e w7 ⟨rfl,b7⟩
 replace b7:=hid b7
 clear HX
 have HX:=hid (Ca' (w:=w7) (b:=true))
 go_wp2_with fail
 refine (HX.out).mono ?_
 rintro e w8 ⟨rfl,b8⟩
 replace b8:=hid b8
 clear HX
 have y0_8:=hid (bS (bS y0_6.out b7.out) b8.out)
 have FB:=hid y0_8.out
 go_wp2_with fail
 go_ret
 exact ⟨rfl,FB.out⟩
theorem Bz {w:World} {v:Value} {a b r:Rat} {n k:Nat} {m:Int} (hp:AA' w v a b r) (hg:Ar' a b r) (sa:Aa' a≤16777216) (sb:Aa' b≤16777216) (hn:n≤200) (hk:k≤n) (hm:((k:Nat):Int)=m:=by rfl) :
   Calls Tryz.prog 34 #[v,.int .i64 ((n:Nat):Int),.int .i64 m] w (FS w):=by
 have d1:decide (((n:Nat):Int)>200)=false:=dF_ (by omega)
 have d2:decide (((n:Nat):Int)<((k:Nat):Int))=false:=dF_ (by omega)
 have d1':¬ ((n:Nat):Int)>200:=by omega
 have d2':¬ ((n:Nat):Int)<((k:Nat):Int):=by omega
 subst hm
 replace sa:=hid sa
 replace sb:=hid sb
 replace hg:=hid hg
 obtain ⟨C1,j1,C2,j2,C3,j3,C4,j4,C5,j5,C6,j6,rfl,hpg,hpe⟩:=id hp.opened
 replace hp:=hid hp
 replace hpg:=hid hpg
 replace hpe:=hid hpe
 obtain ⟨w1,hw1⟩:=eX ((w.alloc (.cells #[.bool (decide (a.num<0)),.slice C1 (Vx.len a.num.natAbs) j1,.slice C2 (Vx.len (below a.den)) j2,.bool (decide (b.num<0)),.slice C3 (Vx.len b.num.natAbs) j3,.slice C4 (Vx.len (below b.den)) j4,.bool (decide (r.num<0)),.slice C5 (Vx.len r.num.natAbs) j5,.slice C6 (Vx.len (below r.den)) j6] 39)))
 have b1:=Am' w (.cells #[.bool (decide (a.num<0)),.slice C1 (Vx.len a.num.natAbs) j1,.slice C2 (Vx.len (below a.den)) j2,.bool (decide (b.num<0)),.slice C3 (Vx.len b.num.natAbs) j3,.slice C4 (Vx.len (below b.den)) j4,.bool (decide (r.num<0)),.slice C5 (Vx.len r.num.natAbs) j5,.slice C6 (Vx.len (below r.den)) j6] 39)
 have g1:=hA_ w (.cells #[.bool (decide (a.num<0)),.slice C1 (Vx.len a.num.natAbs) j1,.slice C2 (Vx.len (below a.den)) j2,.bool (decide (b.num<0)),.slice C3 (Vx.len b.num.natAbs) j3,.slice C4 (Vx.len (below b.den)) j4,.bool (decide (r.num<0)),.slice C5 (Vx.len r.num.natAbs) j5,.slice C6 (Vx.len (below r.den)) j6] 39)
 rw [←hw1] at b1 g1
 replace g1:=hid g1
 replace b1:=hid b1
 go_enter Tryz.func34,Tryz.ntmps34
 go_upto_region 1 with fail
 rw [←hw1]
 clear hw1
 have hg:w1.heap[w.heap.size]?=some (.cells #[.bool (decide (a.num<0)),.slice C1 (Vx.len a.num.natAbs) j1,.slice C2 (Vx.len (below a.den)) j2,.bool (decide (b.num<0)),.slice C3 (Vx.len b.num.natAbs) j3,.slice C4 (Vx.len (below b.den)) j4,.bool (decide (r.num<0)),.slice C5 (Vx.len r.num.natAbs) j5,.slice C6 (Vx.len (below r.den)) j6] 39 (0,0)):=((Below.refl _ w1).block _ (gE.1 g1.out).1).trans g1.out
 have z_p_0:w1.cell? ⟨w.heap.size,0,none⟩=some (.bool (decide (a.num<0))):=cR _ _ _ _ _ _ hg
 have z_p_1:w1.cell? ⟨w.heap.size,1,none⟩=some (.slice C1 (Vx.len a.num.natAbs) j1):=cR _ _ _ _ _ _ hg
 have z_p_2:w1.cell? ⟨w.heap.size,2,none⟩=some (.slice C2 (Vx.len (below a.den)) j2):=cR _ _ _ _ _ _ hg
 have z_p_3:w1.cell? ⟨w.heap.size,3,none⟩=some (.bool (decide (b.num<0))):=cR _ _ _ _ _ _ hg
 have z_p_4:w1.cell? ⟨w.heap.size,4,none⟩=some (.slice C3 (Vx.len b.num.natAbs) j3):=cR _ _ _ _ _ _ hg
 have z_p_5:w1.cell? ⟨w.heap.size,5,none⟩=some (.slice C4 (Vx.len (below b.den)) j4):=cR _ _ _ _ _ _ hg
 have z_p_6:w1.cell? ⟨w.heap.size,6,none⟩=some (.bool (decide (r.num<0))):=cR _ _ _ _ _ _ hg
 have z_p_7:w1.cell? ⟨w.heap.size,7,none⟩=some (.slice C5 (Vx.len r.num.natAbs) j5):=cR _ _ _ _ _ _ hg
 have z_p_8:w1.cell? ⟨w.heap.size,8,none⟩=some (.slice C6 (Vx.len (below r.den)) j6):=cR _ _ _ _ _ _ hg
 clear hg
 have HX:=hid (Bu' (hp.out.keep b1.out) hg.out sa.out sb.out)
 go_wp2_with fail
 refine (HX.out).mono ?_
 rintro e w2 ⟨rfl,b2⟩
 replace b2:=hid b2
 clear HX
 have y0_2:=hid (bS b1.out b2.out)
 have FB:=hid y0_2.out
 go_wp2_with fail
 go_ret
 exact ⟨rfl,FB.out⟩
end Go.Proofs.YtflopjfnppolgaaGreatDoor.Rf
