/-
  Contracts of the functions that the law calls, for every input (Qo).
-/
import Derived.Test.YtcicfnlljdnagaaGreatDoorY00
import Derived.Test.YtcicfnlljdnagaaGreatDoorY33
set_option linter.all false
set_option maxRecDepth 100000
set_option maxHeartbeats 40000000
namespace Go.Proofs.YtcicfnlljdnagaaGreatDoor.Rf
open Lib (hid)
open Go.RowKit
open Rx
open Vx (Ab' Ah Ah')
open List renaming getElem?_toArray → lg, getElem?_cons_zero → lz, getElem?_cons_succ → ls, setIfInBounds_toArray → lt, set_cons_zero → ly, set_cons_succ → lu
theorem CE {w:World} {vf vl vr:Value} {f l r:Rat} (hf:Ad' w vf f) (hl:Ad' w vl l) (hr:Ad' w vr r) (sf:Ab' f≤16777216) (sl:Ab' l≤16777216) (sr:Ab' r≤16777216) {tp:Nat} {t:Rat} {A7 B7:Option Addr} {c7 d7:Nat} (ht:w.heap[tp]?=some (.cells #[.bool (decide (t.num<0)),.slice A7 (Vx.len t.num.natAbs) c7,.slice B7 (Vx.len (below t.den)) d7] 32 (0,0))) (htn:Ad' w (.agg #[.bool (decide (t.num<0)),.slice A7 (Vx.len t.num.natAbs) c7,.slice B7 (Vx.len (below t.den)) d7]) t) (et:2=t) :
   Calls Tryz.prog 26 #[vf,vl,vr,.pointer (some ⟨tp,0,none⟩)] w (Ao' w (divisorQ f l r)):=by
 obtain ⟨m,em⟩:=eY (l+r:Rat)
 obtain ⟨h,eh⟩:=eY (m / t:Rat)
 obtain ⟨s,es⟩:=eY (f - h:Rat)
 have hs:s=divisorQ f l r:=by unfold divisorQ;rw [←es,←eh,←em,←et]
 have st:Ab' t≤3:=by rw [←et];decide
 have sm:Ab' m≤Ab' l+Ab' r+1:=by rw [←em];exact Vx.AM l r
 have sh:Ab' h≤Ab' m+Ab' t+1:=by rw [←eh];have:=Vx.AU m t;omega
 have kf:Ab' f≤536870912:=by omega
 have kl:Ab' l≤536870912:=by omega
 have kr:Ab' r≤536870912:=by omega
 have kt:Ab' t≤536870912:=by omega
 have km:Ab' m≤536870912:=by omega
 have kh:Ab' h≤536870912:=by omega
 rw [←hs]
 have htl:=Af' ht
 clear st sm sh hs
 replace em:=hid em
 replace eh:=hid eh
 replace es:=hid es
 replace et:=hid et
 replace kf:=hid kf
 replace kl:=hid kl
 replace kr:=hid kr
 replace kt:=hid kt
 replace km:=hid km
 replace kh:=hid kh
 replace sf:=hid sf
 replace sl:=hid sl
 replace sr:=hid sr
 replace ht:=hid ht
 replace htn:=hid htn
 obtain ⟨C1,j1,C2,j2,rfl,-,-⟩:=id hf.opened
 replace hf:=hid hf
 obtain ⟨C3,j3,C4,j4,rfl,-,-⟩:=id hl.opened
 replace hl:=hid hl
 obtain ⟨C5,j5,C6,j6,rfl,-,-⟩:=id hr.opened
 replace hr:=hid hr
 obtain ⟨w1,hw1⟩:=eX (((((w.alloc (.cells #[.bool (decide (f.num<0)),.slice C1 (Vx.len f.num.natAbs) j1,.slice C2 (Vx.len (below f.den)) j2] 32)).alloc (.cells #[.bool (decide (l.num<0)),.slice C3 (Vx.len l.num.natAbs) j3,.slice C4 (Vx.len (below l.den)) j4] 32)).alloc (.cells #[.bool (decide (r.num<0)),.slice C5 (Vx.len r.num.natAbs) j5,.slice C6 (Vx.len (below r.den)) j6] 32)).alloc (.cells #[.bool false,.slice none 0 0,.slice none 0 0] 32)))
 obtain ⟨b1,g1,g2,g3,g4⟩:=Cm w (.cells #[.bool (decide (f.num<0)),.slice C1 (Vx.len f.num.natAbs) j1,.slice C2 (Vx.len (below f.den)) j2] 32) (.cells #[.bool (decide (l.num<0)),.slice C3 (Vx.len l.num.natAbs) j3,.slice C4 (Vx.len (below l.den)) j4] 32) (.cells #[.bool (decide (r.num<0)),.slice C5 (Vx.len r.num.natAbs) j5,.slice C6 (Vx.len (below r.den)) j6] 32) (.cells #[.bool false,.slice none 0 0,.slice none 0 0] 32)
 rw [←hw1] at b1 g1 g2 g3 g4
 replace g1:=hid g1
 replace g2:=hid g2
 replace g3:=hid g3
 replace g4:=hid g4
 replace b1:=hid b1
 go_enter Tryz.func26,Tryz.ntmps26
 go_upto_region 1 with fail
 rw [←hw1]
 clear hw1
 go_wp2_with fail
 have HSZa:Hid ((w.heap.size+3)≤w1.heap.size):=hid (by have:=Af' g4.out;omega)
 obtain ⟨z_f_0,z_f_1,z_f_2⟩:=Ae g1.out
 have hlta_f:w.heap.size<(w.heap.size+3):=by omega
 obtain ⟨z_l_0,z_l_1,z_l_2⟩:=Ae g2.out
 have hlta_l:w.heap.size+1<(w.heap.size+3):=by omega
 obtain ⟨z_r_0,z_r_1,z_r_2⟩:=Ae g3.out
 have hlta_r:w.heap.size+2<(w.heap.size+3):=by omega
 obtain ⟨z_t_0,z_t_1,z_t_2⟩:=Ae (Ac' ht.out b1.out)
 have hlta_t:tp<(w.heap.size+3):=by omega
 have H0:=Ag'.start w1 (w.heap.size+3)
 have H0':=H0
 unfold Ag' at H0'
 refine wp_region_held_drew (S:=(fun w'=>(∀ b o,b<(w.heap.size+3)→w'.cell? ⟨b,o,none⟩=w1.cell? ⟨b,o,none⟩)∧Below ((w.heap.size+3)) w1 w'∧Aj' w1 w')) (by kernel_rfl) ?_ (fun hHeld=>?_)
 · (try dsimp only)
   exact H0'
 obtain ⟨w2,hw2⟩:=eX w1.drew
 have b2:Hid (Below w1.heap.size w1 w2):=by rw [hw2];exact ⟨rfl,rfl,rfl,nL _,fun _ _=>rfl⟩
 rw [←hw2] at hHeld H0 ⊢
 clear hw2 H0'
 refine tk (i:=0) (h:=?_)
 try simp only [Act.put,lt,ly,lu]
 refine tk (i:=1) (h:=?_)
 try simp only [Act.put,lt,ly,lu]
 refine tk (i:=2) (h:=?_)
 try simp only [Act.put,lt,ly,lu]
 refine tk (i:=4) (h:=?_)
 try simp only [Act.put,lt,ly,lu]
 have y0_2:=hid (bS b1.out b2.out)
 refine rd (i:=3) (h:=fun K hK=>?_);go_simp;go_at_call 12
 refine (Cq em.out (hl.out.keep y0_2.out) (hr.out.keep y0_2.out) kl.out kr.out).mono ?_
 rintro e w3 ⟨v3,rfl,hv3,b3⟩
 obtain ⟨C7,j7,C8,j8,rfl,-,-⟩:=id hv3.opened
 replace hv3:=hid hv3
 replace b3:=hid b3
 have hk3:=Aw' H0 HSZa b3.out;clear hHeld H0
 refine hK.out _ _ (by (try dsimp only);with_reducible exact hun hk3) (fun hHeld=>?_)
 clear hK K;try simp only [Act.put,lt,ly,lu]
 have y0_3:=hid (bS y0_2.out b3.out)
 refine rd (i:=5) (h:=fun K hK=>?_);go_simp;go_at_call 27
 refine (B8' eh.out hv3.out (htn.out.keep y0_3.out) km.out kt.out).mono ?_
 rintro e w4 ⟨v4,rfl,hv4,b4⟩
 obtain ⟨C9,j9,C10,j10,rfl,-,-⟩:=id hv4.opened
 replace hv4:=hid hv4
 replace b4:=hid b4
 have hk4:=Aw' hk3 HSZa b4.out;clear hHeld hk3
 refine hK.out _ _ (by (try dsimp only);with_reducible exact hun hk4) (fun hHeld=>?_)
 clear hK K;try simp only [Act.put,lt,ly,lu]
 have y0_4:=hid (bS y0_3.out b4.out)
 refine rd (i:=6) (h:=fun K hK=>?_);go_simp;go_at_call 10
 refine (A9' es.out (hf.out.keep y0_4.out) hv4.out kf.out kh.out).mono ?_
 rintro e w5 ⟨v5,rfl,hv5,b5⟩
 obtain ⟨C11,j11,C12,j12,rfl,-,-⟩:=id hv5.opened
 replace hv5:=hid hv5
 replace b5:=hid b5
 have hk5:=Aw' hk4 HSZa b5.out;clear hHeld hk4
 refine hK.out _ _ (by (try dsimp only);with_reducible exact hun hk5) (fun hHeld=>?_)
 clear hK K;try simp only [Act.put,lt,ly,lu]
 have y1_5:=hid (bS (bS (bS b2.out b3.out) b4.out) b5.out)
 have Dq8:=(Ac' g4.out y1_5.out)
 refine rd (i:=7) (h:=fun K hK=>?_)
 have q0:w5.cell? ⟨w.heap.size+3,0,none⟩=some (.bool false):=cR _ _ _ _ _ _ Dq8
 have F0:w5.frozen? ⟨w.heap.size+3,0,none⟩=false:=fR w5 (w.heap.size+3) 0 _ _ Dq8
 have q1:w5.cell? ⟨w.heap.size+3,1,none⟩=some (.slice none 0 0):=cR _ _ _ _ _ _ Dq8
 have F1:w5.frozen? ⟨w.heap.size+3,1,none⟩=false:=fR w5 (w.heap.size+3) 1 _ _ Dq8
 have q2:w5.cell? ⟨w.heap.size+3,2,none⟩=some (.slice none 0 0):=cR _ _ _ _ _ _ Dq8
 have F2:w5.frozen? ⟨w.heap.size+3,2,none⟩=false:=fR w5 (w.heap.size+3) 2 _ _ Dq8
 replace Dq8:=hid Dq8
 go_simp
 clear q0 F0 q1 F1 q2 F2
 have y0_5:=hid (bS y0_4.out b5.out)
 have FB:=hid y0_5.out
 have FV:=hid hv5.out
 obtain ⟨ue,hw⟩:=eX ((((w5.setCell ⟨w.heap.size+3,0,none⟩ (.bool (decide (s.num<0)))).setCell ⟨w.heap.size+3,1,none⟩ (.slice C11 (Vx.len s.num.natAbs) j11)).setCell ⟨w.heap.size+3,2,none⟩ (.slice C12 (Vx.len (below s.den)) j12)))
 obtain ⟨E_ue,OT,LV,BL⟩:=As' Dq8.out hw
 rw [←hw]
 clear hw
 replace E_ue:=hid E_ue
 have FE:=hid (LV.num FV.out)
 replace FB:=hid (BL _ _ (by omega) FB.out)
 have HKE:=hk5
 refine hK.out _ _ ?_ (fun hHeld2=>?_)
 · (try dsimp only)
   exact ⟨fun b o hb=>(Aq (BL (w.heap.size+3) _ (by omega) hk5.2.1)) b o hb,BL (w.heap.size+3) _ (by omega) hk5.2.1,Be' hk5.2.2 LV⟩
 clear hK K hHeld OT LV BL HKE
 try simp only [Act.put,lt,ly,lu]
 have hHeld:=hHeld2
 clear hHeld2
 refine wpAnyH_done (by kernel_rfl) ?_ _
 clear hHeld
 obtain ⟨r0,r1,r2⟩:=Ae E_ue.out
 go_wp2_with fail
 refine bP (v:=.agg #[.bool (decide (s.num<0)),.slice C11 (Vx.len s.num.natAbs) j11,.slice C12 (Vx.len (below s.den)) j12]) ?_ rfl ⟨_,rfl,FE.out,FB.out⟩
 simp [results,Tryz.results26,go_sem,r0,r1,r2]
theorem Bs' (f l r:Rat):Ab' (divisorQ f l r)≤Ab' f+Ab' l+Ab' r+9:=by
 unfold divisorQ
 have h1:=Vx.AM l r
 have h2:=Vx.AU (l+r) 2
 have h3:=Vx.AF' f ((l+r) / 2)
 have h4:Ab' 2≤3:=by decide
 omega
theorem DT {w:World} {vf vl vr:Value} {f l r:Rat} (hf:Ad' w vf f) (hl:Ad' w vl l) (hr:Ad' w vr r) (sf:Ab' f≤16777216) (sl:Ab' l≤16777216) (sr:Ab' r≤16777216) {tp:Nat} {t:Rat} {A7 B7:Option Addr} {c7 d7:Nat} (ht:w.heap[tp]?=some (.cells #[.bool (decide (t.num<0)),.slice A7 (Vx.len t.num.natAbs) c7,.slice B7 (Vx.len (below t.den)) d7] 32 (0,0))) (htn:Ad' w (.agg #[.bool (decide (t.num<0)),.slice A7 (Vx.len t.num.natAbs) c7,.slice B7 (Vx.len (below t.den)) d7]) t) (et:2=t) {dp:Nat} (hd:w.heap[dp]?=some (.cells #[.func (.func 26) #[] #[.pointer (some ⟨tp,0,none⟩)]] 66 (0,0))) :
   Calls Tryz.prog 29 #[vf,vl,vr,.pointer (some ⟨dp,0,none⟩)] w (Ao' w (Ap' f l r)):=by
 obtain ⟨m,em⟩:=eY (l - r:Rat)
 obtain ⟨q,eq⟩:=eY (divisorQ f l r:Rat)
 obtain ⟨s,es⟩:=eY (m / q:Rat)
 have hs:s=Ap' f l r:=by unfold Ap';rw [←es,←eq,←em]
 have sm:Ab' m≤Ab' l+Ab' r+1:=by rw [←em];exact Vx.AF' l r
 have sq:Ab' q≤Ab' f+Ab' l+Ab' r+9:=by rw [←eq];exact Bs' f l r
 have kf:Ab' f≤536870912:=by omega
 have kl:Ab' l≤536870912:=by omega
 have kr:Ab' r≤536870912:=by omega
 have km:Ab' m≤536870912:=by omega
 have kq:Ab' q≤536870912:=by omega
 rw [←hs]
 have htl:=Af' ht
 have hdl:=Af' hd
 clear sm sq hs
 replace em:=hid em
 replace eq:=hid eq
 replace es:=hid es
 replace et:=hid et
 replace kf:=hid kf
 replace kl:=hid kl
 replace kr:=hid kr
 replace km:=hid km
 replace kq:=hid kq
 replace sf:=hid sf
 replace sl:=hid sl
 replace sr:=hid sr
 replace ht:=hid ht
 replace htn:=hid htn
 replace hd:=hid hd
 obtain ⟨C1,j1,C2,j2,rfl,-,-⟩:=id hf.opened
 replace hf:=hid hf
 obtain ⟨C3,j3,C4,j4,rfl,-,-⟩:=id hl.opened
 replace hl:=hid hl
 obtain ⟨C5,j5,C6,j6,rfl,-,-⟩:=id hr.opened
 replace hr:=hid hr
 obtain ⟨w1,hw1⟩:=eX (((((w.alloc (.cells #[.bool (decide (f.num<0)),.slice C1 (Vx.len f.num.natAbs) j1,.slice C2 (Vx.len (below f.den)) j2] 32)).alloc (.cells #[.bool (decide (l.num<0)),.slice C3 (Vx.len l.num.natAbs) j3,.slice C4 (Vx.len (below l.den)) j4] 32)).alloc (.cells #[.bool (decide (r.num<0)),.slice C5 (Vx.len r.num.natAbs) j5,.slice C6 (Vx.len (below r.den)) j6] 32)).alloc (.cells #[.bool false,.slice none 0 0,.slice none 0 0] 32)))
 obtain ⟨b1,g1,g2,g3,g4⟩:=Cm w (.cells #[.bool (decide (f.num<0)),.slice C1 (Vx.len f.num.natAbs) j1,.slice C2 (Vx.len (below f.den)) j2] 32) (.cells #[.bool (decide (l.num<0)),.slice C3 (Vx.len l.num.natAbs) j3,.slice C4 (Vx.len (below l.den)) j4] 32) (.cells #[.bool (decide (r.num<0)),.slice C5 (Vx.len r.num.natAbs) j5,.slice C6 (Vx.len (below r.den)) j6] 32) (.cells #[.bool false,.slice none 0 0,.slice none 0 0] 32)
 rw [←hw1] at b1 g1 g2 g3 g4
 replace g1:=hid g1
 replace g2:=hid g2
 replace g3:=hid g3
 replace g4:=hid g4
 replace b1:=hid b1
 go_enter Tryz.func29,Tryz.ntmps29
 go_upto_region 1 with fail
 rw [←hw1]
 clear hw1
 go_wp2_with fail
 have HSZa:Hid ((w.heap.size+3)≤w1.heap.size):=hid (by have:=Af' g4.out;omega)
 obtain ⟨z_f_0,z_f_1,z_f_2⟩:=Ae g1.out
 have hlta_f:w.heap.size<(w.heap.size+3):=by omega
 obtain ⟨z_l_0,z_l_1,z_l_2⟩:=Ae g2.out
 have hlta_l:w.heap.size+1<(w.heap.size+3):=by omega
 obtain ⟨z_r_0,z_r_1,z_r_2⟩:=Ae g3.out
 have hlta_r:w.heap.size+2<(w.heap.size+3):=by omega
 have hg:w1.heap[dp]?=some (.cells #[.func (.func 26) #[] #[.pointer (some ⟨tp,0,none⟩)]] 66 (0,0)):=(b1.out.block _ (gE.1 hd.out).1).trans hd.out
 have z_d_0:w1.cell? ⟨dp,0,none⟩=some (.func (.func 26) #[] #[.pointer (some ⟨tp,0,none⟩)]):=cR _ _ _ _ _ _ hg
 clear hg
 have hlta_d:dp<(w.heap.size+3):=by omega
 have H0:=Ag'.start w1 (w.heap.size+3)
 have H0':=H0
 unfold Ag' at H0'
 refine wp_region_held_drew (S:=(fun w'=>(∀ b o,b<(w.heap.size+3)→w'.cell? ⟨b,o,none⟩=w1.cell? ⟨b,o,none⟩)∧Below ((w.heap.size+3)) w1 w'∧Aj' w1 w')) (by kernel_rfl) ?_ (fun hHeld=>?_)
 · (try dsimp only)
   exact H0'
 obtain ⟨w2,hw2⟩:=eX w1.drew
 have b2:Hid (Below w1.heap.size w1 w2):=by rw [hw2];exact ⟨rfl,rfl,rfl,nL _,fun _ _=>rfl⟩
 rw [←hw2] at hHeld H0 ⊢
 clear hw2 H0'
 refine tk (i:=0) (h:=?_)
 try simp only [Act.put,lt,ly,lu]
 refine tk (i:=1) (h:=?_)
 try simp only [Act.put,lt,ly,lu]
 refine tk (i:=3) (h:=?_)
 try simp only [Act.put,lt,ly,lu]
 refine tk (i:=4) (h:=?_)
 try simp only [Act.put,lt,ly,lu]
 refine tk (i:=5) (h:=?_)
 try simp only [Act.put,lt,ly,lu]
 refine tk (i:=6) (h:=?_)
 try simp only [Act.put,lt,ly,lu]
 have y0_2:=hid (bS b1.out b2.out)
 refine rd (i:=2) (h:=fun K hK=>?_);go_simp;go_at_call 10
 refine (A9' em.out (hl.out.keep y0_2.out) (hr.out.keep y0_2.out) kl.out kr.out).mono ?_
 rintro e w3 ⟨v3,rfl,hv3,b3⟩
 obtain ⟨C7,j7,C8,j8,rfl,-,-⟩:=id hv3.opened
 replace hv3:=hid hv3
 replace b3:=hid b3
 have hk3:=Aw' H0 HSZa b3.out;clear hHeld H0
 refine hK.out _ _ (by (try dsimp only);with_reducible exact hun hk3) (fun hHeld=>?_)
 clear hK K;try simp only [Act.put,lt,ly,lu]
 have y0_3:=hid (bS y0_2.out b3.out)
 refine rd (i:=7) (h:=fun K hK=>?_);go_simp;go_at_call 26
 refine ((show Calls _ _ _ _ (Ao' _ q) from eq.out ▸ CE (hf.out.keep y0_3.out) (hl.out.keep y0_3.out) (hr.out.keep y0_3.out) sf.out sl.out sr.out (Ac' ht.out y0_3.out) (htn.out.keep y0_3.out) et.out)).mono ?_
 rintro e w4 ⟨v4,rfl,hv4,b4⟩
 obtain ⟨C9,j9,C10,j10,rfl,-,-⟩:=id hv4.opened
 replace hv4:=hid hv4
 replace b4:=hid b4
 have hk4:=Aw' hk3 HSZa b4.out;clear hHeld hk3
 refine hK.out _ _ (by (try dsimp only);with_reducible exact hun hk4) (fun hHeld=>?_)
 clear hK K;try simp only [Act.put,lt,ly,lu]
 refine rd (i:=8) (h:=fun K hK=>?_);go_simp;go_at_call 27
 refine (B8' es.out (hv3.out.keep b4.out) hv4.out km.out kq.out).mono ?_
 rintro e w5 ⟨v5,rfl,hv5,b5⟩
 obtain ⟨C11,j11,C12,j12,rfl,-,-⟩:=id hv5.opened
 replace hv5:=hid hv5
 replace b5:=hid b5
 have hk5:=Aw' hk4 HSZa b5.out;clear hHeld hk4
 refine hK.out _ _ (by (try dsimp only);with_reducible exact hun hk5) (fun hHeld=>?_)
 clear hK K;try simp only [Act.put,lt,ly,lu]
 have y1_5:=hid (bS (bS (bS b2.out b3.out) b4.out) b5.out)
 have Dq18:=(Ac' g4.out y1_5.out)
 refine rd (i:=9) (h:=fun K hK=>?_)
 have q0:w5.cell? ⟨w.heap.size+3,0,none⟩=some (.bool false):=cR _ _ _ _ _ _ Dq18
 have F0:w5.frozen? ⟨w.heap.size+3,0,none⟩=false:=fR w5 (w.heap.size+3) 0 _ _ Dq18
 have q1:w5.cell? ⟨w.heap.size+3,1,none⟩=some (.slice none 0 0):=cR _ _ _ _ _ _ Dq18
 have F1:w5.frozen? ⟨w.heap.size+3,1,none⟩=false:=fR w5 (w.heap.size+3) 1 _ _ Dq18
 have q2:w5.cell? ⟨w.heap.size+3,2,none⟩=some (.slice none 0 0):=cR _ _ _ _ _ _ Dq18
 have F2:w5.frozen? ⟨w.heap.size+3,2,none⟩=false:=fR w5 (w.heap.size+3) 2 _ _ Dq18
 replace Dq18:=hid Dq18
 go_simp
 clear q0 F0 q1 F1 q2 F2
 have y0_5:=hid (bS (bS y0_3.out b4.out) b5.out)
 have FB:=hid y0_5.out
 have FV:=hid hv5.out
 obtain ⟨ue,hw⟩:=eX ((((w5.setCell ⟨w.heap.size+3,0,none⟩ (.bool (decide (s.num<0)))).setCell ⟨w.heap.size+3,1,none⟩ (.slice C11 (Vx.len s.num.natAbs) j11)).setCell ⟨w.heap.size+3,2,none⟩ (.slice C12 (Vx.len (below s.den)) j12)))
 obtain ⟨E_ue,OT,LV,BL⟩:=As' Dq18.out hw
 rw [←hw]
 clear hw
 replace E_ue:=hid E_ue
 have FE:=hid (LV.num FV.out)
 replace FB:=hid (BL _ _ (by omega) FB.out)
 have HKE:=hk5
 refine hK.out _ _ ?_ (fun hHeld2=>?_)
 · (try dsimp only)
   exact ⟨fun b o hb=>(Aq (BL (w.heap.size+3) _ (by omega) hk5.2.1)) b o hb,BL (w.heap.size+3) _ (by omega) hk5.2.1,Be' hk5.2.2 LV⟩
 clear hK K hHeld OT LV BL HKE
 try simp only [Act.put,lt,ly,lu]
 have hHeld:=hHeld2
 clear hHeld2
 refine wpAnyH_done (by kernel_rfl) ?_ _
 clear hHeld
 obtain ⟨r0,r1,r2⟩:=Ae E_ue.out
 go_wp2_with fail
 refine bP (v:=.agg #[.bool (decide (s.num<0)),.slice C11 (Vx.len s.num.natAbs) j11,.slice C12 (Vx.len (below s.den)) j12]) ?_ rfl ⟨_,rfl,FE.out,FB.out⟩
 simp [results,Tryz.results29,go_sem,r0,r1,r2]
end Go.Proofs.YtcicfnlljdnagaaGreatDoor.Rf
