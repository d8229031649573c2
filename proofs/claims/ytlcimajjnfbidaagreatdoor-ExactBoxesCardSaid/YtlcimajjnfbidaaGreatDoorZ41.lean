/-
  Contracts of the functions that the law calls, for every input (Eb Tf BoxK BoxL).
-/
import Derived.Test.YtlcimajjnfbidaaGreatDoorZ00
import Derived.Test.YtlcimajjnfbidaaGreatDoorZ40
import Derived.Test.YtlcimajjnfbidaaGreatDoorZ38
import Derived.Test.YtlcimajjnfbidaaGreatDoorZ39
import Derived.Test.YtlcimajjnfbidaaGreatDoorZ22
import Derived.Test.YtlcimajjnfbidaaGreatDoorZ23
set_option linter.all false
set_option maxRecDepth 100000
set_option maxHeartbeats 40000000
namespace Go.Proofs.YtlcimajjnfbidaaGreatDoor.Rf
open Lib (hid)
open Go.RowKit
open Rx
open Vx (Aa' Ao Ao')
open List renaming getElem?_toArray → lg, getElem?_cons_zero → lz, getElem?_cons_succ → ls, setIfInBounds_toArray → lt, set_cons_zero → ly, set_cons_succ → lu
theorem CG {w:World} {g:Nat} {T:TypeId} {s0 s1:Bool} {A0 B0 A1 B1:Option Addr} {n0 c0 m0 d0 n1 c1 m1 d1:Nat} {q0 q1:Rat} (L:w.heap[g]?=some (.cells #[.bool s0,.slice A0 n0 c0,.slice B0 m0 d0,.bool s1,.slice A1 n1 c1,.slice B1 m1 d1] T (0,0)))
   (h0:Ah' w (.agg #[.bool s0,.slice A0 n0 c0,.slice B0 m0 d0]) q0) (h1:Ah' w (.agg #[.bool s1,.slice A1 n1 c1,.slice B1 m1 d1]) q1):BI' w g 0 [q0,q1]:=by
 intro i q hi
 match i,hi with
 | 0,hi=>obtain rfl:=Option.some.inj hi;exact ⟨s0,A0,n0,c0,B0,m0,d0,cR _ _ 0 _ _ _ L,cR _ _ 1 _ _ _ L,cR _ _ 2 _ _ _ L,h0⟩
 | 1,hi=>obtain rfl:=Option.some.inj hi;exact ⟨s1,A1,n1,c1,B1,m1,d1,cR _ _ 3 _ _ _ L,cR _ _ 4 _ _ _ L,cR _ _ 5 _ _ _ L,h1⟩
 | _+2,hi=>exact absurd hi (by simp)
theorem Et {w:World} {g:Nat} {T:TypeId} {s0 s1 s2 s3:Bool} {A0 B0 A1 B1 A2 B2 A3 B3:Option Addr} {n0 c0 m0 d0 n1 c1 m1 d1 n2 c2 m2 d2 n3 c3 m3 d3:Nat} {q0 q1 q2 q3:Rat} (L:w.heap[g]?=some (.cells #[.bool s0,.slice A0 n0 c0,.slice B0 m0 d0,.bool s1,.slice A1 n1 c1,.slice B1 m1 d1,.bool s2,.slice A2 n2 c2,.slice B2 m2 d2,.bool s3,.slice A3 n3 c3,.slice B3 m3 d3] T (0,0)))
   (h0:Ah' w (.agg #[.bool s0,.slice A0 n0 c0,.slice B0 m0 d0]) q0) (h1:Ah' w (.agg #[.bool s1,.slice A1 n1 c1,.slice B1 m1 d1]) q1) (h2:Ah' w (.agg #[.bool s2,.slice A2 n2 c2,.slice B2 m2 d2]) q2) (h3:Ah' w (.agg #[.bool s3,.slice A3 n3 c3,.slice B3 m3 d3]) q3):BI' w g 0 [q0,q1,q2,q3]:=by
 intro i q hi
 match i,hi with
 | 0,hi=>obtain rfl:=Option.some.inj hi;exact ⟨s0,A0,n0,c0,B0,m0,d0,cR _ _ 0 _ _ _ L,cR _ _ 1 _ _ _ L,cR _ _ 2 _ _ _ L,h0⟩
 | 1,hi=>obtain rfl:=Option.some.inj hi;exact ⟨s1,A1,n1,c1,B1,m1,d1,cR _ _ 3 _ _ _ L,cR _ _ 4 _ _ _ L,cR _ _ 5 _ _ _ L,h1⟩
 | 2,hi=>obtain rfl:=Option.some.inj hi;exact ⟨s2,A2,n2,c2,B2,m2,d2,cR _ _ 6 _ _ _ L,cR _ _ 7 _ _ _ L,cR _ _ 8 _ _ _ L,h2⟩
 | 3,hi=>obtain rfl:=Option.some.inj hi;exact ⟨s3,A3,n3,c3,B3,m3,d3,cR _ _ 9 _ _ _ L,cR _ _ 10 _ _ _ L,cR _ _ 11 _ _ _ L,h3⟩
 | _+4,hi=>exact absurd hi (by simp)
theorem BN {a b c d:Rat} {N:Nat} (ha:Aa' a≤N) (hb:Aa' b≤N) (hc:Aa' c≤N) (hd:Aa' d≤N):∀ y∈[a,b,c,d],Aa' y≤N:=by
 intro y hy
 simp only [List.mem_cons,List.not_mem_nil,or_false] at hy
 rcases hy with rfl | rfl | rfl | rfl <;> assumption
theorem Fy' {w:World} {vx vy:Value} {a b c d l h:Rat} (el:leastOf (a*c) [a*d,b*c,b*d]=l) (eh:greatestOf (a*c) [a*d,b*c,b*d]=h) (hx:Aq w vx a b) (hy:Aq w vy c d) (sa:Aa' a≤4000000) (sb:Aa' b≤4000000) (sc:Aa' c≤4000000) (sd:Aa' d≤4000000) :
   Calls Tryz.prog 22 #[vx,vy] w (AZ' w l h):=by
 obtain ⟨q0,eq0⟩:=eY (a*c:Rat)
 have tq0:Aa' q0≤16777216:=by rw [←eq0];have:=Vx.Bi a c;omega
 obtain ⟨q1,eq1⟩:=eY (a*d:Rat)
 have tq1:Aa' q1≤16777216:=by rw [←eq1];have:=Vx.Bi a d;omega
 obtain ⟨q2,eq2⟩:=eY (b*c:Rat)
 have tq2:Aa' q2≤16777216:=by rw [←eq2];have:=Vx.Bi b c;omega
 obtain ⟨q3,eq3⟩:=eY (b*d:Rat)
 have tq3:Aa' q3≤16777216:=by rw [←eq3];have:=Vx.Bi b d;omega
 rw [eq0,eq1,eq2,eq3] at el eh
 have hsm:=hid (BN tq0 tq1 tq2 tq3)
 have ta:=hid (show Aa' a≤268435456 by omega)
 have tb:=hid (show Aa' b≤268435456 by omega)
 have tc:=hid (show Aa' c≤268435456 by omega)
 have td:=hid (show Aa' d≤268435456 by omega)
 clear sa sb sc sd tq0 tq1 tq2 tq3
 replace el:=hid el
 replace eh:=hid eh
 replace eq0:=hid eq0
 replace eq1:=hid eq1
 replace eq2:=hid eq2
 replace eq3:=hid eq3
 obtain ⟨C1,j1,C2,j2,C3,j3,C4,j4,rfl,hxl,hxh⟩:=id hx.opened
 replace hx:=hid hx
 replace hxl:=hid hxl
 replace hxh:=hid hxh
 obtain ⟨C5,j5,C6,j6,C7,j7,C8,j8,rfl,hyl,hyh⟩:=id hy.opened
 replace hy:=hid hy
 replace hyl:=hid hyl
 replace hyh:=hid hyh
 obtain ⟨w1,hw1⟩:=eX ((((w.alloc (.cells #[.bool (decide (a.num<0)),.slice C1 (len a.num.natAbs) j1,.slice C2 (len a.den) j2,.bool (decide (b.num<0)),.slice C3 (len b.num.natAbs) j3,.slice C4 (len b.den) j4] 50)).alloc (.cells #[.bool (decide (c.num<0)),.slice C5 (len c.num.natAbs) j5,.slice C6 (len c.den) j6,.bool (decide (d.num<0)),.slice C7 (len d.num.natAbs) j7,.slice C8 (len d.den) j8] 50)).alloc (.cells #[.bool false,.slice none 0 0,.slice none 0 0,.bool false,.slice none 0 0,.slice none 0 0] 50)))
 obtain ⟨b1,g1,g2,g3⟩:=Au' hw1
 replace g1:=hid g1
 replace g2:=hid g2
 replace g3:=hid g3
 replace b1:=hid b1
 go_enter Tryz.func22,Tryz.ntmps22
 go_upto_region 1 with fail
 rw [←hw1]
 clear hw1
 go_wp2_with fail
 have HSZa:Hid ((w.heap.size+2)≤w1.heap.size):=hid (by have:=AO (Ac' g3.out (Below.refl _ w1));omega)
 obtain ⟨z_x_0,z_x_1,z_x_2,z_x_3,z_x_4,z_x_5⟩:=Ad' g1.out
 have hlta_x:w.heap.size<(w.heap.size+2):=by omega
 obtain ⟨z_y_0,z_y_1,z_y_2,z_y_3,z_y_4,z_y_5⟩:=Ad' g2.out
 have hlta_y:w.heap.size+1<(w.heap.size+2):=by omega
 have H0:=Ae'.start w1 (w.heap.size+2)
 have H0':=H0
 unfold Ae' at H0'
 refine wp_region_held_drew (S:=(fun w'=>(∀ b o,b<(w.heap.size+2)→w'.cell? ⟨b,o,none⟩=w1.cell? ⟨b,o,none⟩)∧Below ((w.heap.size+2)) w1 w'∧Ag' w1 w')) (by kernel_rfl) ?_ (fun hHeld=>?_)
 · (try dsimp only)
   exact H0'
 obtain ⟨w2,hw2⟩:=eX w1.drew
 have b2:Hid (Below w1.heap.size w1 w2):=by rw [hw2];exact ⟨rfl,rfl,rfl,nL _,fun _ _=>rfl⟩
 rw [←hw2] at hHeld H0 ⊢
 clear hw2 H0'
 refine tk (i:=0) (h:=?_)
 try simp only [Act.put,lt,ly,lu]
 refine tk (i:=1) (h:=?_)
 try simp only [Act.put,lt,ly,lu]
 refine tk (i:=2) (h:=?_)
 try simp only [Act.put,lt,ly,lu]
 refine tk (i:=3) (h:=?_)
 try simp only [Act.put,lt,ly,lu]
 refine tk (i:=5) (h:=?_)
 try simp only [Act.put,lt,ly,lu]
 refine tk (i:=6) (h:=?_)
 try simp only [Act.put,lt,ly,lu]
 refine tk (i:=7) (h:=?_)
 try simp only [Act.put,lt,ly,lu]
 refine tk (i:=8) (h:=?_)
 try simp only [Act.put,lt,ly,lu]
 refine tk (i:=10) (h:=?_)
 try simp only [Act.put,lt,ly,lu]
 refine tk (i:=11) (h:=?_)
 try simp only [Act.put,lt,ly,lu]
 refine tk (i:=12) (h:=?_)
 try simp only [Act.put,lt,ly,lu]
 refine tk (i:=13) (h:=?_)
 try simp only [Act.put,lt,ly,lu]
 refine tk (i:=15) (h:=?_)
 try simp only [Act.put,lt,ly,lu]
 refine tk (i:=16) (h:=?_)
 try simp only [Act.put,lt,ly,lu]
 refine tk (i:=17) (h:=?_)
 try simp only [Act.put,lt,ly,lu]
 refine tk (i:=18) (h:=?_)
 try simp only [Act.put,lt,ly,lu]
 have y0_2:=hid (bS b1.out b2.out)
 refine rd (i:=4) (h:=fun K hK=>?_);go_simp;go_at_call 62
 refine (Cz' eq0.out (hxl.out.keep y0_2.out) (hyl.out.keep y0_2.out) ta.out tc.out).mono ?_
 rintro e w3 ⟨v3,rfl,hv3,b3⟩
 obtain ⟨C9,j9,C10,j10,rfl,-,-⟩:=id hv3.opened
 replace hv3:=hid hv3
 replace b3:=hid b3
 have hk3:=Ak' H0 HSZa b3.out;clear hHeld H0
 refine hK.out _ _ (by (try dsimp only);with_reducible exact hun hk3) (fun hHeld=>?_)
 clear hK K;try simp only [Act.put,lt,ly,lu]
 have y0_3:=hid (bS y0_2.out b3.out)
 refine rd (i:=9) (h:=fun K hK=>?_);go_simp;go_at_call 62
 refine (Cz' eq1.out (hxl.out.keep y0_3.out) (hyh.out.keep y0_3.out) ta.out td.out).mono ?_
 rintro e w4 ⟨v4,rfl,hv4,b4⟩
 obtain ⟨C11,j11,C12,j12,rfl,-,-⟩:=id hv4.opened
 replace hv4:=hid hv4
 replace b4:=hid b4
 have hk4:=Ak' hk3 HSZa b4.out;clear hHeld hk3
 refine hK.out _ _ (by (try dsimp only);with_reducible exact hun hk4) (fun hHeld=>?_)
 clear hK K;try simp only [Act.put,lt,ly,lu]
 have y0_4:=hid (bS y0_3.out b4.out)
 refine rd (i:=14) (h:=fun K hK=>?_);go_simp;go_at_call 62
 refine (Cz' eq2.out (hxh.out.keep y0_4.out) (hyl.out.keep y0_4.out) tb.out tc.out).mono ?_
 rintro e w5 ⟨v5,rfl,hv5,b5⟩
 obtain ⟨C13,j13,C14,j14,rfl,-,-⟩:=id hv5.opened
 replace hv5:=hid hv5
 replace b5:=hid b5
 have hk5:=Ak' hk4 HSZa b5.out;clear hHeld hk4
 refine hK.out _ _ (by (try dsimp only);with_reducible exact hun hk5) (fun hHeld=>?_)
 clear hK K;try simp only [Act.put,lt,ly,lu]
 have y0_5:=hid (bS y0_4.out b5.out)
 refine rd (i:=19) (h:=fun K hK=>?_);go_simp;go_at_call 62
 refine (Cz' eq3.out (hxh.out.keep y0_5.out) (hyh.out.keep y0_5.out) tb.out td.out).mono ?_
 rintro e w6 ⟨v6,rfl,hv6,b6⟩
 obtain ⟨C15,j15,C16,j16,rfl,-,-⟩:=id hv6.opened
 replace hv6:=hid hv6
 replace b6:=hid b6
 have hk6:=Ak' hk5 HSZa b6.out;clear hHeld hk5
 refine hK.out _ _ (by (try dsimp only);with_reducible exact hun hk6) (fun hHeld=>?_)
 clear hK K;try simp only [Act.put,lt,ly,lu]
 refine wpAnyH_ready (rs:=[20]) (by kernel_rfl) (by simp) (AllReadyH.cons (o:=?oq21) ?eq21 ?kq21 AllReadyH.nil)
 case eq21=>simp only [lg,lz,ls];rfl
 intro K hK;go_simp
 have y3_6:=hid (bS (bS b4.out b5.out) b6.out)
 have y4_6:=hid (bS b5.out b6.out)
 obtain ⟨w7,hw7⟩:=eX (w6.alloc (.cells #[.bool (decide (q0.num<0)),.slice C9 (len q0.num.natAbs) j9,.slice C10 (len q0.den) j10,.bool (decide (q1.num<0)),.slice C11 (len q1.num.natAbs) j11,.slice C12 (len q1.den) j12,.bool (decide (q2.num<0)),.slice C13 (len q2.num.natAbs) j13,.slice C14 (len q2.den) j14,.bool (decide (q3.num<0)),.slice C15 (len q3.num.natAbs) j15,.slice C16 (len q3.den) j16] 39))
 have b7:Below w6.heap.size w6 w7:=BE hw7
 have HR7:=hid (Et (Bh hw7) (((hv3.out.keep (bS (bS b4.out b5.out) b6.out))).keep b7) (((hv4.out.keep (bS b5.out b6.out))).keep b7) (((hv5.out.keep b6.out)).keep b7) ((hv6.out).keep b7))
 rw [←hw7]
 clear hw7
 have hk7:=Ak' hk6 HSZa b7;replace b7:=hid b7;have hk7':=hk7;unfold Ae' at hk7';clear hHeld hk6
 refine hK.out _ _ ?_ (fun hHeld=>?_)
 · (try dsimp only);with_reducible exact hk7'
 clear hK K hk7';try simp only [Act.put,lt,ly,lu]
 refine rd (i:=21) (h:=fun K hK=>?_);go_simp;go_at_call 66
 refine (BU' el.out eh.out HR7.out (by simp) hsm.out).mono ?_
 rintro e w8 ⟨v8,rfl,hv8,b8⟩
 obtain ⟨C17,j17,C18,j18,C19,j19,C20,j20,rfl,-,-,-,-⟩:=id hv8.opened
 replace hv8:=hid hv8
 replace b8:=hid b8
 have hk8:=Ak' hk7 HSZa b8.out;clear hHeld hk7
 refine hK.out _ _ (by (try dsimp only);with_reducible exact hun hk8) (fun hHeld=>?_)
 clear hK K;try simp only [Act.put,lt,ly,lu]
 have y1_8:=hid (bS (bS (bS (bS (bS (bS b2.out b3.out) b4.out) b5.out) b6.out) b7.out) b8.out)
 have Dq23:=(Ac' g3.out y1_8.out)
 refine rd (i:=22) (h:=fun K hK=>?_)
 have q0:w8.cell? ⟨w.heap.size+2,0,none⟩=some (.bool false):=cR _ _ _ _ _ _ Dq23
 have F0:w8.frozen? ⟨w.heap.size+2,0,none⟩=false:=fR w8 (w.heap.size+2) 0 _ _ Dq23
 have q1:w8.cell? ⟨w.heap.size+2,1,none⟩=some (.slice none 0 0):=cR _ _ _ _ _ _ Dq23
 have F1:w8.frozen? ⟨w.heap.size+2,1,none⟩=false:=fR w8 (w.heap.size+2) 1 _ _ Dq23
 have q2:w8.cell? ⟨w.heap.size+2,2,none⟩=some (.slice none 0 0):=cR _ _ _ _ _ _ Dq23
 have F2:w8.frozen? ⟨w.heap.size+2,2,none⟩=false:=fR w8 (w.heap.size+2) 2 _ _ Dq23
 have q3:w8.cell? ⟨w.heap.size+2,3,none⟩=some (.bool false):=cR _ _ _ _ _ _ Dq23
 have F3:w8.frozen? ⟨w.heap.size+2,3,none⟩=false:=fR w8 (w.heap.size+2) 3 _ _ Dq23
 have q4:w8.cell? ⟨w.heap.size+2,4,none⟩=some (.slice none 0 0):=cR _ _ _ _ _ _ Dq23
 have F4:w8.frozen? ⟨w.heap.size+2,4,none⟩=false:=fR w8 (w.heap.size+2) 4 _ _ Dq23
 have q5:w8.cell? ⟨w.heap.size+2,5,none⟩=some (.slice none 0 0):=cR _ _ _ _ _ _ Dq23
 have F5:w8.frozen? ⟨w.heap.size+2,5,none⟩=false:=fR w8 (w.heap.size+2) 5 _ _ Dq23
 replace Dq23:=hid Dq23
 go_simp
 clear q0 F0 q1 F1 q2 F2 q3 F3 q4 F4 q5 F5
 have y0_8:=hid (bS (bS (bS y0_5.out b6.out) b7.out) b8.out)
 have FB:=hid y0_8.out
 have FV:=hid hv8.out
 obtain ⟨ue,hw⟩:=eX (((((((w8.setCell ⟨w.heap.size+2,0,none⟩ (.bool (decide (l.num<0)))).setCell ⟨w.heap.size+2,1,none⟩ (.slice C17 (len l.num.natAbs) j17)).setCell ⟨w.heap.size+2,2,none⟩ (.slice C18 (len l.den) j18)).setCell ⟨w.heap.size+2,3,none⟩ (.bool (decide (h.num<0)))).setCell ⟨w.heap.size+2,4,none⟩ (.slice C19 (len h.num.natAbs) j19)).setCell ⟨w.heap.size+2,5,none⟩ (.slice C20 (len h.den) j20)))
 obtain ⟨E_ue,OT,LV,BL⟩:=AH Dq23.out hw
 rw [←hw]
 clear hw
 replace E_ue:=hid E_ue
 have FE:=hid (LV.rbox FV.out)
 replace FB:=hid (BL _ _ (by omega) FB.out)
 have HKE:=hk8
 refine hK.out _ _ ?_ (fun hHeld2=>?_)
 · (try dsimp only)
   exact ⟨fun b o hb=>(Aj (BL (w.heap.size+2) _ (by omega) hk8.2.1)) b o hb,BL (w.heap.size+2) _ (by omega) hk8.2.1,Bn' hk8.2.2 LV⟩
 clear hK K hHeld OT LV BL HKE
 try simp only [Act.put,lt,ly,lu]
 have hHeld:=hHeld2
 clear hHeld2
 refine wpAnyH_done (by kernel_rfl) ?_ _
 clear hHeld
 obtain ⟨r0,r1,r2,r3,r4,r5⟩:=Ad' E_ue.out
 go_wp2_with fail
 refine bP (v:=.agg #[.bool (decide (l.num<0)),.slice C17 (len l.num.natAbs) j17,.slice C18 (len l.den) j18,.bool (decide (h.num<0)),.slice C19 (len h.num.natAbs) j19,.slice C20 (len h.den) j20]) ?_ rfl ⟨_,rfl,FE.out,FB.out⟩
 simp [results,Tryz.results22,go_sem,r0,r1,r2,r3,r4,r5]
theorem Fz {w:World} {vx vy:Value} {a b c d l h:Rat} (hc0:c≠0) (hd0:d≠0) (el:leastOf (a / c) [a / d,b / c,b / d]=l) (eh:greatestOf (a / c) [a / d,b / c,b / d]=h) (hx:Aq w vx a b) (hy:Aq w vy c d) (sa:Aa' a≤4000000) (sb:Aa' b≤4000000) (sc:Aa' c≤4000000) (sd:Aa' d≤4000000) :
   Calls Tryz.prog 36 #[vx,vy] w (AZ' w l h):=by
 obtain ⟨q0,eq0⟩:=eY (a / c:Rat)
 have tq0:Aa' q0≤16777216:=by rw [←eq0];have:=Vx.Bs' a c;omega
 obtain ⟨q1,eq1⟩:=eY (a / d:Rat)
 have tq1:Aa' q1≤16777216:=by rw [←eq1];have:=Vx.Bs' a d;omega
 obtain ⟨q2,eq2⟩:=eY (b / c:Rat)
 have tq2:Aa' q2≤16777216:=by rw [←eq2];have:=Vx.Bs' b c;omega
 obtain ⟨q3,eq3⟩:=eY (b / d:Rat)
 have tq3:Aa' q3≤16777216:=by rw [←eq3];have:=Vx.Bs' b d;omega
 rw [eq0,eq1,eq2,eq3] at el eh
 have hsm:=hid (BN tq0 tq1 tq2 tq3)
 have ta:=hid (show Aa' a≤268435456 by omega)
 have tb:=hid (show Aa' b≤268435456 by omega)
 have tc:=hid (show Aa' c≤268435456 by omega)
 have td:=hid (show Aa' d≤268435456 by omega)
 clear sa sb sc sd tq0 tq1 tq2 tq3
 replace el:=hid el
 replace eh:=hid eh
 replace eq0:=hid eq0
 replace eq1:=hid eq1
 replace eq2:=hid eq2
 replace eq3:=hid eq3
 replace hc0:=hid hc0
 replace hd0:=hid hd0
 obtain ⟨C1,j1,C2,j2,C3,j3,C4,j4,rfl,hxl,hxh⟩:=id hx.opened
 replace hx:=hid hx
 replace hxl:=hid hxl
 replace hxh:=hid hxh
 obtain ⟨C5,j5,C6,j6,C7,j7,C8,j8,rfl,hyl,hyh⟩:=id hy.opened
 replace hy:=hid hy
 replace hyl:=hid hyl
 replace hyh:=hid hyh
 obtain ⟨w1,hw1⟩:=eX ((((w.alloc (.cells #[.bool (decide (a.num<0)),.slice C1 (len a.num.natAbs) j1,.slice C2 (len a.den) j2,.bool (decide (b.num<0)),.slice C3 (len b.num.natAbs) j3,.slice C4 (len b.den) j4] 50)).alloc (.cells #[.bool (decide (c.num<0)),.slice C5 (len c.num.natAbs) j5,.slice C6 (len c.den) j6,.bool (decide (d.num<0)),.slice C7 (len d.num.natAbs) j7,.slice C8 (len d.den) j8] 50)).alloc (.cells #[.bool false,.slice none 0 0,.slice none 0 0,.bool false,.slice none 0 0,.slice none 0 0] 50)))
 obtain ⟨b1,g1,g2,g3⟩:=Au' hw1
 replace g1:=hid g1
 replace g2:=hid g2
 replace g3:=hid g3
 replace b1:=hid b1
 go_enter Tryz.func36,Tryz.ntmps36
 go_upto_region 1 with fail
 rw [←hw1]
 clear hw1
 go_wp2_with fail
 have HSZa:Hid ((w.heap.size+2)≤w1.heap.size):=hid (by have:=AO (Ac' g3.out (Below.refl _ w1));omega)
 obtain ⟨z_x_0,z_x_1,z_x_2,z_x_3,z_x_4,z_x_5⟩:=Ad' g1.out
 have hlta_x:w.heap.size<(w.heap.size+2):=by omega
 obtain ⟨z_y_0,z_y_1,z_y_2,z_y_3,z_y_4,z_y_5⟩:=Ad' g2.out
 have hlta_y:w.heap.size+1<(w.heap.size+2):=by omega
 have H0:=Ae'.start w1 (w.heap.size+2)
 have H0':=H0
 unfold Ae' at H0'
 refine wp_region_held_drew (S:=(fun w'=>(∀ b o,b<(w.heap.size+2)→w'.cell? ⟨b,o,none⟩=w1.cell? ⟨b,o,none⟩)∧Below ((w.heap.size+2)) w1 w'∧Ag' w1 w')) (by kernel_rfl) ?_ (fun hHeld=>?_)
 · (try dsimp only)
   exact H0'
 obtain ⟨w2,hw2⟩:=eX w1.drew
 have b2:Hid (Below w1.heap.size w1 w2):=by rw [hw2];exact ⟨rfl,rfl,rfl,nL _,fun _ _=>rfl⟩
 rw [←hw2] at hHeld H0 ⊢
 clear hw2 H0'
 refine tk (i:=0) (h:=?_)
 try simp only [Act.put,lt,ly,lu]
 refine tk (i:=1) (h:=?_)
 try simp only [Act.put,lt,ly,lu]
 refine tk (i:=2) (h:=?_)
 try simp only [Act.put,lt,ly,lu]
 refine tk (i:=3) (h:=?_)
 try simp only [Act.put,lt,ly,lu]
 refine tk (i:=5) (h:=?_)
 try simp only [Act.put,lt,ly,lu]
 refine tk (i:=6) (h:=?_)
 try simp only [Act.put,lt,ly,lu]
 refine tk (i:=7) (h:=?_)
 try simp only [Act.put,lt,ly,lu]
 refine tk (i:=8) (h:=?_)
 try simp only [Act.put,lt,ly,lu]
 refine tk (i:=10) (h:=?_)
 try simp only [Act.put,lt,ly,lu]
 refine tk (i:=11) (h:=?_)
 try simp only [Act.put,lt,ly,lu]
 refine tk (i:=12) (h:=?_)
 try simp only [Act.put,lt,ly,lu]
 refine tk (i:=13) (h:=?_)
 try simp only [Act.put,lt,ly,lu]
 refine tk (i:=15) (h:=?_)
 try simp only [Act.put,lt,ly,lu]
 refine tk (i:=16) (h:=?_)
 try simp only [Act.put,lt,ly,lu]
 refine tk (i:=17) (h:=?_)
 try simp only [Act.put,lt,ly,lu]
 refine tk (i:=18) (h:=?_)
 try simp only [Act.put,lt,ly,lu]
 have y0_2:=hid (bS b1.out b2.out)
 refine rd (i:=4) (h:=fun K hK=>?_);go_simp;go_at_call 81
 refine (CZ hc0.out eq0.out (hxl.out.keep y0_2.out) (hyl.out.keep y0_2.out) ta.out tc.out).mono ?_
 rintro e w3 ⟨v3,rfl,hv3,b3⟩
 obtain ⟨C9,j9,C10,j10,rfl,-,-⟩:=id hv3.opened
 replace hv3:=hid hv3
 replace b3:=hid b3
 have hk3:=Ak' H0 HSZa b3.out;clear hHeld H0
 refine hK.out _ _ (by (try dsimp only);with_reducible exact hun hk3) (fun hHeld=>?_)
 clear hK K;try simp only [Act.put,lt,ly,lu]
 have y0_3:=hid (bS y0_2.out b3.out)
 refine rd (i:=9) (h:=fun K hK=>?_);go_simp;go_at_call 81
 refine (CZ hd0.out eq1.out (hxl.out.keep y0_3.out) (hyh.out.keep y0_3.out) ta.out td.out).mono ?_
 rintro e w4 ⟨v4,rfl,hv4,b4⟩
 obtain ⟨C11,j11,C12,j12,rfl,-,-⟩:=id hv4.opened
 replace hv4:=hid hv4
 replace b4:=hid b4
 have hk4:=Ak' hk3 HSZa b4.out;clear hHeld hk3
 refine hK.out _ _ (by (try dsimp only);with_reducible exact hun hk4) (fun hHeld=>?_)
 clear hK K;try simp only [Act.put,lt,ly,lu]
 have y0_4:=hid (bS y0_3.out b4.out)
 refine rd (i:=14) (h:=fun K hK=>?_);go_simp;go_at_call 81
 refine (CZ hc0.out eq2.out (hxh.out.keep y0_4.out) (hyl.out.keep y0_4.out) tb.out tc.out).mono ?_
 rintro e w5 ⟨v5,rfl,hv5,b5⟩
 obtain ⟨C13,j13,C14,j14,rfl,-,-⟩:=id hv5.opened
 replace hv5:=hid hv5
 replace b5:=hid b5
 have hk5:=Ak' hk4 HSZa b5.out;clear hHeld hk4
 refine hK.out _ _ (by (try dsimp only);with_reducible exact hun hk5) (fun hHeld=>?_)
 clear hK K;try simp only [Act.put,lt,ly,lu]
 have y0_5:=hid (bS y0_4.out b5.out)
 refine rd (i:=19) (h:=fun K hK=>?_);go_simp;go_at_call 81
 refine (CZ hd0.out eq3.out (hxh.out.keep y0_5.out) (hyh.out.keep y0_5.out) tb.out td.out).mono ?_
 rintro e w6 ⟨v6,rfl,hv6,b6⟩
 obtain ⟨C15,j15,C16,j16,rfl,-,-⟩:=id hv6.opened
 replace hv6:=hid hv6
 replace b6:=hid b6
 have hk6:=Ak' hk5 HSZa b6.out;clear hHeld hk5
 refine hK.out _ _ (by (try dsimp only);with_reducible exact hun hk6) (fun hHeld=>?_)
 clear hK K;try simp only [Act.put,lt,ly,lu]
 refine wpAnyH_ready (rs:=[20]) (by kernel_rfl) (by simp) (AllReadyH.cons (o:=?oq44) ?eq44 ?kq44 AllReadyH.nil)
 case eq44=>simp only [lg,lz,ls];rfl
 intro K hK;go_simp
 have y3_6:=hid (bS (bS b4.out b5.out) b6.out)
 have y4_6:=hid (bS b5.out b6.out)
 obtain ⟨w7,hw7⟩:=eX (w6.alloc (.cells #[.bool (decide (q0.num<0)),.slice C9 (len q0.num.natAbs) j9,.slice C10 (len q0.den) j10,.bool (decide (q1.num<0)),.slice C11 (len q1.num.natAbs) j11,.slice C12 (len q1.den) j12,.bool (decide (q2.num<0)),.slice C13 (len q2.num.natAbs) j13,.slice C14 (len q2.den) j14,.bool (decide (q3.num<0)),.slice C15 (len q3.num.natAbs) j15,.slice C16 (len q3.den) j16] 39))
 have b7:Below w6.heap.size w6 w7:=BE hw7
 have HR7:=hid (Et (Bh hw7) (((hv3.out.keep (bS (bS b4.out b5.out) b6.out))).keep b7) (((hv4.out.keep (bS b5.out b6.out))).keep b7) (((hv5.out.keep b6.out)).keep b7) ((hv6.out).keep b7))
 rw [←hw7]
 clear hw7
 have hk7:=Ak' hk6 HSZa b7;replace b7:=hid b7;have hk7':=hk7;unfold Ae' at hk7';clear hHeld hk6
 refine hK.out _ _ ?_ (fun hHeld=>?_)
 · (try dsimp only);with_reducible exact hk7'
 clear hK K hk7';try simp only [Act.put,lt,ly,lu]
 refine rd (i:=21) (h:=fun K hK=>?_);go_simp;go_at_call 66
 refine (BU' el.out eh.out HR7.out (by simp) hsm.out).mono ?_
 rintro e w8 ⟨v8,rfl,hv8,b8⟩
 obtain ⟨C17,j17,C18,j18,C19,j19,C20,j20,rfl,-,-,-,-⟩:=id hv8.opened
 replace hv8:=hid hv8
 replace b8:=hid b8
 have hk8:=Ak' hk7 HSZa b8.out;clear hHeld hk7
 refine hK.out _ _ (by (try dsimp only);with_reducible exact hun hk8) (fun hHeld=>?_)
 clear hK K;try simp only [Act.put,lt,ly,lu]
 have y1_8:=hid (bS (bS (bS (bS (bS (bS b2.out b3.out) b4.out) b5.out) b6.out) b7.out) b8.out)
 have Dq46:=(Ac' g3.out y1_8.out)
 refine rd (i:=22) (h:=fun K hK=>?_)
 have q0:w8.cell? ⟨w.heap.size+2,0,none⟩=some (.bool false):=cR _ _ _ _ _ _ Dq46
 have F0:w8.frozen? ⟨w.heap.size+2,0,none⟩=false:=fR w8 (w.heap.size+2) 0 _ _ Dq46
 have q1:w8.cell? ⟨w.heap.size+2,1,none⟩=some (.slice none 0 0):=cR _ _ _ _ _ _ Dq46
 have F1:w8.frozen? ⟨w.heap.size+2,1,none⟩=false:=fR w8 (w.heap.size+2) 1 _ _ Dq46
 have q2:w8.cell? ⟨w.heap.size+2,2,none⟩=some (.slice none 0 0):=cR _ _ _ _ _ _ Dq46
 have F2:w8.frozen? ⟨w.heap.size+2,2,none⟩=false:=fR w8 (w.heap.size+2) 2 _ _ Dq46
 have q3:w8.cell? ⟨w.heap.size+2,3,none⟩=some (.bool false):=cR _ _ _ _ _ _ Dq46
 have F3:w8.frozen? ⟨w.heap.size+2,3,none⟩=false:=fR w8 (w.heap.size+2) 3 _ _ Dq46
 have q4:w8.cell? ⟨w.heap.size+2,4,none⟩=some (.slice none 0 0):=cR _ _ _ _ _ _ Dq46
 have F4:w8.frozen? ⟨w.heap.size+2,4,none⟩=false:=fR w8 (w.heap.size+2) 4 _ _ Dq46
 have q5:w8.cell? ⟨w.heap.size+2,5,none⟩=some (.slice none 0 0):=cR _ _ _ _ _ _ Dq46
 have F5:w8.frozen? ⟨w.heap.size+2,5,none⟩=false:=fR w8 (w.heap.size+2) 5 _ _ Dq46
 replace Dq46:=hid Dq46
 go_simp
 clear q0 F0 q1 F1 q2 F2 q3 F3 q4 F4 q5 F5
 have y0_8:=hid (bS (bS (bS y0_5.out b6.out) b7.out) b8.out)
 have FB:=hid y0_8.out
 have FV:=hid hv8.out
 obtain ⟨ue,hw⟩:=eX (((((((w8.setCell ⟨w.heap.size+2,0,none⟩ (.bool (decide (l.num<0)))).setCell ⟨w.heap.size+2,1,none⟩ (.slice C17 (len l.num.natAbs) j17)).setCell ⟨w.heap.size+2,2,none⟩ (.slice C18 (len l.den) j18)).setCell ⟨w.heap.size+2,3,none⟩ (.bool (decide (h.num<0)))).setCell ⟨w.heap.size+2,4,none⟩ (.slice C19 (len h.num.natAbs) j19)).setCell ⟨w.heap.size+2,5,none⟩ (.slice C20 (len h.den) j20)))
 obtain ⟨E_ue,OT,LV,BL⟩:=AH Dq46.out hw
 rw [←hw]
 clear hw
 replace E_ue:=hid E_ue
 have FE:=hid (LV.rbox FV.out)
 replace FB:=hid (BL _ _ (by omega) FB.out)
 have HKE:=hk8
 refine hK.out _ _ ?_ (fun hHeld2=>?_)
 · (try dsimp only)
   exact ⟨fun b o hb=>(Aj (BL (w.heap.size+2) _ (by omega) hk8.2.1)) b o hb,BL (w.heap.size+2) _ (by omega) hk8.2.1,Bn' hk8.2.2 LV⟩
 clear hK K hHeld OT LV BL HKE
 try simp only [Act.put,lt,ly,lu]
 have hHeld:=hHeld2
 clear hHeld2
 refine wpAnyH_done (by kernel_rfl) ?_ _
 clear hHeld
 obtain ⟨r0,r1,r2,r3,r4,r5⟩:=Ad' E_ue.out
 go_wp2_with fail
 refine bP (v:=.agg #[.bool (decide (l.num<0)),.slice C17 (len l.num.natAbs) j17,.slice C18 (len l.den) j18,.bool (decide (h.num<0)),.slice C19 (len h.num.natAbs) j19,.slice C20 (len h.den) j20]) ?_ rfl ⟨_,rfl,FE.out,FB.out⟩
 simp [results,Tryz.results36,go_sem,r0,r1,r2,r3,r4,r5]
theorem Cb' (x:Rat) (n:Nat):Aa' (x^n)≤Aa' x*n+1:=by
 induction n with
 | zero =>
   rw [Rat.pow_zero]
   have:Aa' 1≤1:=by decide +kernel
   omega
 | succ n ih=>rw [Rat.pow_succ,Nat.mul_succ];have:=Vx.Bi (x^n) x;omega
theorem Hc {p:Rat} {n:Nat} (sp:Aa' p≤100000) (hn:n≤64):∀ k,k≤n+1→Aa' (p^k)≤268435456:=by
 intro k hk
 have h1:=Cb' p k
 have h2:Aa' p*k≤100000*65:=Nat.mul_le_mul sp (by omega)
 omega
def Gl' (w:World) (X P:Nat) (cx:Array Value) (p:Rat) (k:Nat) (wr:World):Prop :=
  ∃ A1 n1 c1 A2 n2 c2 b,wr.heap[P]?=some (.cells #[.bool b,.slice A1 n1 c1,.slice A2 n2 c2] 39 (0,0))∧Ah' wr (.agg #[.bool b,.slice A1 n1 c1,.slice A2 n2 c2]) (p^k) ∧
    wr.heap[X]?=some (.cells cx 39 (0,0))∧wr.heap[X+1]?=some (.cells #[.bool false,.slice none 0 0,.slice none 0 0] 39 (0,0))∧Ah' wr (.agg cx) p∧Below w.heap.size w wr
theorem CA {w:World} {vx:Value} {p r:Rat} {n:Nat} (hr:p^n=r) (hx:Ah' w vx p) (sp:Aa' p≤100000) (hn:n≤64) :
   Calls Tryz.prog 79 #[vx,.int .i64 (n:Nat)] w (A6' w r):=by
 obtain ⟨o,eo⟩:=eY (((1:Int):Rat):Rat)
 have e0:p^0=o:=by rw [←eo,Rat.pow_zero];rfl
 have HS:=hid (Hc sp hn)
 replace eo:=hid eo
 replace e0:=hid e0
 replace hr:=hid hr
 obtain ⟨C1,j1,C2,j2,rfl,-,-⟩:=id hx.opened
 replace hx:=hid hx
 obtain ⟨w1,hw1⟩:=eX (((w.alloc (.cells #[.bool (decide (p.num<0)),.slice C1 (len p.num.natAbs) j1,.slice C2 (len p.den) j2] 39)).alloc (.cells #[.bool false,.slice none 0 0,.slice none 0 0] 39)))
 obtain ⟨b1,g1,g2⟩:=Aq' hw1
 replace g1:=hid g1
 replace g2:=hid g2
 replace b1:=hid b1
 go_enter Tryz.func79,Tryz.ntmps79
 go_upto_region 1 with fail
 rw [←hw1]
 clear hw1
 have HX:=hid (BB' (w:=w1) eo.out (by omega) (by omega))
 go_wp2_with fail
 refine (HX.out).mono ?_
 rintro e w2 ⟨v2,rfl,hv2,b2⟩
 obtain ⟨C3,j3,C4,j4,rfl,-,-⟩:=id hv2.opened
 replace hv2:=hid hv2
 replace b2:=hid b2
 clear HX
 go_upto_region 2 with fail
 obtain ⟨w3,hw3⟩:=eX (w2.alloc (.cells #[.bool (decide (o.num<0)),.slice C3 (len o.num.natAbs) j3,.slice C4 (len o.den) j4] 39))
 have b3:Hid (Below w2.heap.size w2 w3):=by rw [hw3];exact (Below.refl _ _).alloc (nL _) _
 have L3:Hid (w3.heap[w2.heap.size]?=some (.cells #[.bool (decide (o.num<0)),.slice C3 (len o.num.natAbs) j3,.slice C4 (len o.den) j4] 39 (0,0))):=by rw [hw3];exact hA_ w2 _
 rw [←hw3]
 clear hw3
 obtain ⟨P,hP⟩:=eY w2.heap.size
 obtain ⟨X,hX⟩:=eY w.heap.size
 have hXP:X+1<P:=by rw [←hP,←hX];have:=AO (Ac' g2.out b2.out);omega
 have HP0:Gl' w X P (#[.bool (decide (p.num<0)),.slice C1 (len p.num.natAbs) j1,.slice C2 (len p.den) j2]) p 0 w3:=⟨_,_,_,_,_,_,_,by rw [←hP];exact L3.out,by rw [e0.out];exact (hv2.out.keep b3.out),by rw [←hX];exact Ac' g1.out (bS b2.out b3.out),by rw [←hX];exact (Ac' g2.out (bS b2.out b3.out)),(hx.out.keep (bS (bS b1.out b2.out) b3.out)),(bS (bS b1.out b2.out) b3.out)⟩
 rw [hX,hP]
 replace HP0:=hid HP0
 clear b1 b2 b3 g1 g2 L3 hv2 hx eo e0 hP
 go_wp2_with fail
 go_loopw [6] (fun iv wr=>∃ k:Nat,k≤n∧iv=.int .i64 k∧Hid (Gl' w X P (#[.bool (decide (p.num<0)),.slice C1 (len p.num.natAbs) j1,.slice C2 (len p.den) j2]) p k wr)) (fun iv _=>n - (intOf iv).toNat)
 case atStart=>exact ⟨0,Nat.zero_le _,rfl,HP0⟩
 case round =>
   obtain ⟨k,hk,rfl,hrel⟩:=hrel
   obtain ⟨B1,m1,d1,B2,m2,d2,bb,g5,hv,gx,gR,hxx,hbw⟩:=hrel.out
   clear hrel
   obtain ⟨z0,z1,z2⟩:=Ab' g5
   obtain ⟨y0,y1,y2⟩:=Ab' gx
   rcases Nat.lt_or_ge k n with hkn | hkn
   · have HX:=hid (Cz' (show p^k*p=p^(k+1) from (Rat.pow_succ p k).symm) hv hxx (HS.out k (by omega)) (HS.out 1 (by omega) |> fun h=>by rw [Rat.pow_one] at h;exact h))
     replace g5:=hid g5
     replace gx:=hid gx
     replace gR:=hid gR
     replace hxx:=hid hxx
     replace hbw:=hid hbw
     clear hv
     go_wp2_with fail
     refine (HX.out).mono ?_
     rintro e w7 ⟨v7,rfl,hv7,b7⟩
     obtain ⟨Q1,i1,Q2,i2,rfl,-,-⟩:=id hv7.opened
     replace hv7:=hid hv7
     have D5:=Ac' g5.out b7
     have q0:=cR _ _ 0 _ _ _ D5
     have q1:=cR _ _ 1 _ _ _ D5
     have q2:=cR _ _ 2 _ _ _ D5
     have F0:=fR w7 P 0 _ _ D5
     have F1:=fR w7 P 1 _ _ D5
     have F2:=fR w7 P 2 _ _ D5
     simp only [lg,lz,ls] at q0 q1 q2
     obtain ⟨r,hr7⟩:=eY (p^(k+1))
     rw [hr7] at hv7 ⊢
     replace hr7:=hid hr7
     obtain ⟨ue,hw⟩:=eX ((((w7.setCell ⟨P,0,none⟩ (.bool (decide (r.num<0)))).setCell ⟨P,1,none⟩ (.slice Q1 (len r.num.natAbs) i1)).setCell ⟨P,2,none⟩ (.slice Q2 (len r.den) i2)))
     obtain ⟨E,OT,LV,BL⟩:=Bj D5 hw
     have FIN:Hid (Gl' w X P (#[.bool (decide (p.num<0)),.slice C1 (len p.num.natAbs) j1,.slice C2 (len p.den) j2]) p (k+1) ue):=hid ⟨_,_,_,_,_,_,_,E,by rw [hr7.out];exact LV.rat hv7.out,OT _ _ (by omega) (Ac' gx.out b7),OT _ _ (by omega) (Ac' gR.out b7),LV.rat (hxx.out.keep b7),BL _ _ (by omega) (chain hbw.out b7)⟩
     replace hw:=hid hw
     clear HX D5 E OT LV BL b7 g5 gx gR hxx hbw z0 z1 z2 y0 y1 y2
     go_wp2_with fail
     rw [←hw.out]
     go_roundw
     case rel=>exact ⟨k+1,hkn,by go_num,FIN⟩
     case measure=>simp [intOf];omega
   · obtain rfl:k=n:=Nat.le_antisymm hk hkn
     rw [hr.out] at hv
     have q0:=cR _ _ 0 _ _ _ gR
     have q1:=cR _ _ 1 _ _ _ gR
     have q2:=cR _ _ 2 _ _ _ gR
     have F0:=fR wr (X+1) 0 _ _ gR
     have F1:=fR wr (X+1) 1 _ _ gR
     have F2:=fR wr (X+1) 2 _ _ gR
     simp only [lg,lz,ls] at q0 q1 q2
     obtain ⟨ue,hw⟩:=eX ((((wr.setCell ⟨(X+1),0,none⟩ (.bool bb)).setCell ⟨(X+1),1,none⟩ (.slice B1 m1 d1)).setCell ⟨(X+1),2,none⟩ (.slice B2 m2 d2)))
     obtain ⟨E,-,LV,BL⟩:=Bj gR hw
     have FE:=hid (LV.rat hv)
     have FB:=hid (BL _ _ (by omega) hbw)
     replace E:=hid E
     replace hw:=hid hw
     clear HS gx hxx hbw y0 y1 y2 BL LV hv gR g5
     go_wp2_with fail
     rw [←hw.out]
     obtain ⟨r0,r1,r2⟩:=Ab' E.out
     refine bP (v:=.agg #[.bool bb,.slice B1 m1 d1,.slice B2 m2 d2]) ?_ rfl ⟨_,rfl,FE.out,FB.out⟩
     simp [results,Tryz.results79,go_sem,r0,r1,r2]
end Go.Proofs.YtlcimajjnfbidaaGreatDoor.Rf
namespace Go.Proofs.YtlcimajjnfbidaaGreatDoor
open Lib (hid)
open Go.RowKit
open Vx
theorem Fz' {w:World} {v u:Value} {a b c d:Rat} (hv:Am' w v a b) (hu:Am' w u c d) (sa:Aa' a≤34359738368) (sb:Aa' b≤34359738368) (sc:Aa' c≤34359738368) (sd:Aa' d≤34359738368) :
   Calls Tryz.prog 27 #[v,u] w (AJ' w (leastOf a [b,c,d]) (greatestOf a [b,c,d])):=by
 obtain ⟨A1,c1,A2,c2,A3,c3,A4,c4,rfl,ha,hb⟩:=hv.opened
 obtain ⟨A5,c5,A6,c6,A7,c7,A8,c8,rfl,hc,hd⟩:=hu.opened
 obtain ⟨wB,hwB⟩:=eX (((w.alloc (.cells #[.bool (decide (a.num<0)),.slice A1 (len a.num.natAbs) c1,.slice A2 (len (below a.den)) c2,.bool (decide (b.num<0)),.slice A3 (len b.num.natAbs) c3,.slice A4 (len (below b.den)) c4] 48)).alloc (.cells #[.bool (decide (c.num<0)),.slice A5 (len c.num.natAbs) c5,.slice A6 (len (below c.den)) c6,.bool (decide (d.num<0)),.slice A7 (len d.num.natAbs) c7,.slice A8 (len (below d.den)) c8] 48)).alloc (.cells #[.bool false,.slice none 0 0,.slice none 0 0,.bool false,.slice none 0 0,.slice none 0 0] 48))
 obtain ⟨b0,g0,g1,g2⟩:=Au' hwB
 obtain ⟨k0,k1,k2,k3,k4,k5⟩:=Ad' g0
 obtain ⟨k6,k7,k8,k9,k10,k11⟩:=Ad' g1
 have HK0:=hid (Ah.start (T:=48) rfl AP' g2)
 have HB0:=hid b0
 have hlt1:w.heap.size<w.heap.size+2:=by omega
 have hlt2:w.heap.size+1<w.heap.size+2:=by omega
 clear g0 g1 g2 b0
 have HX:=hid (CU' (ha.keep HB0.out) sa (hb.keep HB0.out) sb (hc.keep HB0.out) sc (hd.keep HB0.out) sd)
 obtain ⟨q,hq⟩:=eX (leastOf a [b,c,d]:Rat)
 obtain ⟨r,hr⟩:=eX (greatestOf a [b,c,d]:Rat)
 rw [←hq,←hr] at HX ⊢
 have HK1:=hid (HK0.out.alloc (o:=(.cells #[.bool (decide (b.num<0)),.slice A3 (len b.num.natAbs) c3,.slice A4 (len (below b.den)) c4,.bool (decide (c.num<0)),.slice A5 (len c.num.natAbs) c5,.slice A6 (len (below c.den)) c6,.bool (decide (d.num<0)),.slice A7 (len d.num.natAbs) c7,.slice A8 (len (below d.den)) c8] 31)))
 clear hq hr hv hu ha hb hc hd sa sb sc sd
 go_enter Tryz.func27,Tryz.ntmps27
 go_upto_region 1 with fail
 rw [←hwB]
 clear hwB
 go_wp2_with fail
 refine (HX.out).mono ?_
 rintro e w5 ⟨v5,rfl,hv5,b5⟩
 obtain ⟨C1,j1,C2,j2,C3,j3,C4,j4,rfl,hq1,hr1⟩:=hv5.opened
 have hk:=(HK1.out.call b5).held6 (Ag'.refl _)
 have hk':=hk
 unfold Af' at hk'
 clear b5 HX HK1
 obtain ⟨-,c0,c1',c2',c3',c4',c5',f0,f1,f2,f3,f4,f5,-⟩:=hk'
 have HD:=hk.done (p:=q) (q:=r) (s1:=decide (q.num<0)) (A1:=C1) (n1:=len q.num.natAbs) (c1:=j1) (A2:=C2) (n2:=len (below q.den)) (c2:=j2) (s2:=decide (r.num<0)) (A3:=C3) (n3:=len r.num.natAbs) (c3:=j3) (A4:=C4) (n4:=len (below r.den)) (c4:=j4) (hq1) (hr1)
 obtain ⟨d1,d2,d3⟩:=HD
 obtain ⟨r0,r1,r2,r3,r4,r5⟩:=Ad' d3
 have HD:=hid (And.intro d1 d2)
 clear d1 d2 d3
 go_wp2_with fail
 refine bP (v:=.agg #[.bool (decide (q.num<0)),.slice (C1) (len q.num.natAbs) (j1),.slice (C2) (len (below q.den)) (j2),.bool (decide (r.num<0)),.slice (C3) (len r.num.natAbs) (j3),.slice (C4) (len (below r.den)) (j4)]) ?_ rfl ⟨_,rfl,HD.out.1,Ae HB0.out (by omega) HD.out.2⟩
 simp [results,Tryz.results27,go_sem,r0,r1,r2,r3,r4,r5]
theorem Bj' (x:Rat):Aa' x.abs=Aa' x:=by
 unfold Rat.abs
 split
 · rfl
 · exact Bz x
theorem FA {w:World} {v:Value} {a b:Rat} (hv:Am' w v a b) (sa:Aa' a≤34359738368) (sb:Aa' b≤34359738368) (h:(a≤0∧0≤b)) :
   Calls Tryz.prog 25 #[v] w (AJ' w (leastOf 0 [a.abs,b.abs]) (greatestOf 0 [a.abs,b.abs])):=by
 obtain ⟨A1,c1,A2,c2,A3,c3,A4,c4,rfl,ha,hb⟩:=hv.opened
 obtain ⟨wB,hwB⟩:=eX ((w.alloc (.cells #[.bool (decide (a.num<0)),.slice A1 (len a.num.natAbs) c1,.slice A2 (len (below a.den)) c2,.bool (decide (b.num<0)),.slice A3 (len b.num.natAbs) c3,.slice A4 (len (below b.den)) c4] 48)).alloc (.cells #[.bool false,.slice none 0 0,.slice none 0 0,.bool false,.slice none 0 0,.slice none 0 0] 48))
 obtain ⟨b0,g0,g1⟩:=Aq' hwB
 obtain ⟨k0,k1,k2,k3,k4,k5⟩:=Ad' g0
 have HK0:=hid (Ah.start (T:=48) rfl AP' g1)
 have HB0:=hid b0
 have hlt1:w.heap.size<w.heap.size+1:=by omega
 clear g0 g1 b0
 obtain ⟨qa,eqa⟩:=eX (a.abs:Rat)
 obtain ⟨qb,eqb⟩:=eX (b.abs:Rat)
 have HSa:Hid (Aa' qa≤34359738368):=by show _≤_;rw [eqa,Bj'];exact sa
 have HSb:Hid (Aa' qb≤34359738368):=by show _≤_;rw [eqb,Bj'];exact sb
 have HZ:Hid (Aa' 0≤34359738368):=nT (show Aa' 0≤3 by decide +kernel) (by omega)
 have HH:=hid (Co' (x:=0) (Af.pair (ha.keep HB0.out) (hb.keep HB0.out)) (Ay' wB) sa sb HZ.out)
 have hdec:decide (a≤0∧0≤b)=true:=dT_ h
 rw [hdec] at HH
 have HQ1:=fun (w1 w':World) (hb1:Below w.heap.size w w1) (hk:Af' wB (w.heap.size+1) w1 w')=>hid (Cl' (hk.stay.num (ha.keep hb1)) (nT sa (by omega)))
 have HQ2:=fun (w1 w':World) (hb1:Below w.heap.size w w1) (hk:Af' wB (w.heap.size+1) w1 w')=>hid (Cl' (hk.stay.num (hb.keep hb1)) (nT sb (by omega)))
 rw [←eqa] at HQ1 ⊢
 rw [←eqb] at HQ2 ⊢
 obtain ⟨xl,hxl⟩:=eX (leastOf 0 [qa,qb]:Rat)
 obtain ⟨xg,hxg⟩:=eX (greatestOf 0 [qa,qb]:Rat)
 rw [←hxl,←hxg]
 replace hxl:=hid hxl
 replace hxg:=hid hxg
 clear eqa eqb hv ha hb sa sb h hdec
 go_enter Tryz.func25,Tryz.ntmps25
 go_upto_region 1 with fail
 rw [←hwB]
 clear hwB
 go_wp2_with fail
 refine (HH.out).mono ?_
 rintro e w0 ⟨rfl,b1⟩
 have HK1:=hid (HK0.out.call b1)
 have HB1:=Ae HB0.out (by omega) HK1.out.1
 have Hqa:=fun (w':World) (hk:Af' wB (w.heap.size+1) w0 w')=>HQ1 w0 w' HB1 hk
 have Hqb:=fun (w':World) (hk:Af' wB (w.heap.size+1) w0 w')=>HQ2 w0 w' HB1 hk
 have H0:=HK1.out.begin6
 have H0':=H0
 unfold Af' at H0'
 clear HH HQ1 HQ2 b1
 go_wp2_with fail
 go_region_held3 (fun w'=>(∀ b o,b<w.heap.size+1→w'.cell? ⟨b,o,none⟩=wB.cell? ⟨b,o,none⟩)∧w'.cell? ⟨w.heap.size+1,0,none⟩=some (cur w' ⟨w.heap.size+1,0,none⟩)∧w'.cell? ⟨w.heap.size+1,1,none⟩=some (cur w' ⟨w.heap.size+1,1,none⟩)∧w'.cell? ⟨w.heap.size+1,2,none⟩=some (cur w' ⟨w.heap.size+1,2,none⟩)∧w'.cell? ⟨w.heap.size+1,3,none⟩=some (cur w' ⟨w.heap.size+1,3,none⟩)∧w'.cell? ⟨w.heap.size+1,4,none⟩=some (cur w' ⟨w.heap.size+1,4,none⟩)∧w'.cell? ⟨w.heap.size+1,5,none⟩=some (cur w' ⟨w.heap.size+1,5,none⟩)∧w'.frozen? ⟨w.heap.size+1,0,none⟩=false∧w'.frozen? ⟨w.heap.size+1,1,none⟩=false∧w'.frozen? ⟨w.heap.size+1,2,none⟩=false∧w'.frozen? ⟨w.heap.size+1,3,none⟩=false∧w'.frozen? ⟨w.heap.size+1,4,none⟩=false∧w'.frozen? ⟨w.heap.size+1,5,none⟩=false∧Ah 6 48 wB (w.heap.size+1) w'∧Ag' w0 w')
   (first | with_reducible exact H0' | with_reducible exact hk1' | with_reducible exact hk2' | with_reducible exact hk3' | exact hk3.store | (have hkb:=hk2.call ((Below.refl w2.heap.size w2).alloc (nL _) (.cells #[.bool (decide (qa.num<0)),.slice C1 (len qa.num.natAbs) j1,.slice C2 (len (below qa.den)) j2,.bool (decide (qb.num<0)),.slice C3 (len qb.num.natAbs) j3,.slice C4 (len (below qb.den)) j4] 31));unfold Af' at hkb;exact hkb))
   (first | (go_at_call 69;have hc:=HB' (Ay' _) HZ.out (hv1.keep hbl2) HSa.out hv2 HSb.out;rw [←hxl.out,←hxg.out] at hc;refine hc.mono ?_;clear hc;rintro e w5 ⟨v5,rfl,hv5,hbl5⟩;obtain ⟨E1,i1,E2,i2,E3,i3,E4,i4,rfl,hp1,hp2⟩:=hv5.opened;have hk3:=(hk2.call ((Below.refl w2.heap.size w2).alloc (nL _) (.cells #[.bool (decide (qa.num<0)),.slice C1 (len qa.num.natAbs) j1,.slice C2 (len (below qa.den)) j2,.bool (decide (qb.num<0)),.slice C3 (len qb.num.natAbs) j3,.slice C4 (len (below qb.den)) j4] 31))).call hbl5;have hk3':=hk3;unfold Af' at hk3') | (go_at_call 70;refine ((Hqb _ hk1).out).mono ?_;rintro e w2 ⟨v2,rfl,hv2,hbl2⟩;obtain ⟨C3,j3,C4,j4,rfl,-,-⟩:=id hv2.opened;have hk2:=hk1.call hbl2;have hk2':=hk2;unfold Af' at hk2') | (go_at_call 70;refine ((Hqa _ H0).out).mono ?_;rintro e w1 ⟨v1,rfl,hv1,hbl1⟩;obtain ⟨C1,j1,C2,j2,rfl,-,-⟩:=id hv1.opened;have hk1:=H0.call hbl1;have hk1':=hk1;unfold Af' at hk1'))
 rename_i hHl
 clear hHl
 have HD:=hk3.done (p:=xl) (q:=xg) (s1:=decide (xl.num<0)) (A1:=E1) (n1:=len xl.num.natAbs) (c1:=i1) (A2:=E2) (n2:=len (below xl.den)) (c2:=i2) (s2:=decide (xg.num<0)) (A3:=E3) (n3:=len xg.num.natAbs) (c3:=i3) (A4:=E4) (n4:=len (below xg.den)) (c4:=i4) (hp1) (hp2)
 obtain ⟨d1,d2,d3⟩:=HD
 obtain ⟨r0,r1,r2,r3,r4,r5⟩:=Ad' d3
 have HD:=hid (And.intro d1 d2)
 clear d1 d2 d3
 go_wp2_with fail
 refine bP (v:=.agg #[.bool (decide (xl.num<0)),.slice (E1) (len xl.num.natAbs) (i1),.slice (E2) (len (below xl.den)) (i2),.bool (decide (xg.num<0)),.slice (E3) (len xg.num.natAbs) (i3),.slice (E4) (len (below xg.den)) (i4)]) ?_ rfl ⟨_,rfl,HD.out.1,Ae HB0.out (by omega) HD.out.2⟩
 simp [results,Tryz.results25,go_sem,r0,r1,r2,r3,r4,r5]
theorem Gm {w:World} {v:Value} {a b:Rat} (hv:Am' w v a b) (sa:Aa' a≤34359738368) (sb:Aa' b≤34359738368) (h:¬ (a≤0∧0≤b)) :
   Calls Tryz.prog 25 #[v] w (AJ' w (leastOf (a.abs) [b.abs]) (greatestOf (a.abs) [b.abs])):=by
 obtain ⟨A1,c1,A2,c2,A3,c3,A4,c4,rfl,ha,hb⟩:=hv.opened
 obtain ⟨wB,hwB⟩:=eX ((w.alloc (.cells #[.bool (decide (a.num<0)),.slice A1 (len a.num.natAbs) c1,.slice A2 (len (below a.den)) c2,.bool (decide (b.num<0)),.slice A3 (len b.num.natAbs) c3,.slice A4 (len (below b.den)) c4] 48)).alloc (.cells #[.bool false,.slice none 0 0,.slice none 0 0,.bool false,.slice none 0 0,.slice none 0 0] 48))
 obtain ⟨b0,g0,g1⟩:=Aq' hwB
 obtain ⟨k0,k1,k2,k3,k4,k5⟩:=Ad' g0
 have HK0:=hid (Ah.start (T:=48) rfl AP' g1)
 have HB0:=hid b0
 have hlt1:w.heap.size<w.heap.size+1:=by omega
 clear g0 g1 b0
 obtain ⟨qa,eqa⟩:=eX (a.abs:Rat)
 obtain ⟨qb,eqb⟩:=eX (b.abs:Rat)
 have HSa:Hid (Aa' qa≤34359738368):=by show _≤_;rw [eqa,Bj'];exact sa
 have HSb:Hid (Aa' qb≤34359738368):=by show _≤_;rw [eqb,Bj'];exact sb
 have HZ:Hid (Aa' 0≤34359738368):=nT (show Aa' 0≤3 by decide +kernel) (by omega)
 have HH:=hid (Co' (x:=0) (Af.pair (ha.keep HB0.out) (hb.keep HB0.out)) (Ay' wB) sa sb HZ.out)
 have hdec:decide (a≤0∧0≤b)=false:=dF_ h
 rw [hdec] at HH
 have HQ1:=fun (w1 w':World) (hb1:Below w.heap.size w w1) (hk:Af' wB (w.heap.size+1) w1 w')=>hid (Cl' (hk.stay.num (ha.keep hb1)) (nT sa (by omega)))
 have HQ2:=fun (w1 w':World) (hb1:Below w.heap.size w w1) (hk:Af' wB (w.heap.size+1) w1 w')=>hid (Cl' (hk.stay.num (hb.keep hb1)) (nT sb (by omega)))
 rw [←eqa] at HQ1 ⊢
 rw [←eqb] at HQ2 ⊢
 obtain ⟨xl,hxl⟩:=eX (leastOf qa [qb]:Rat)
 obtain ⟨xg,hxg⟩:=eX (greatestOf qa [qb]:Rat)
 rw [←hxl,←hxg]
 replace hxl:=hid hxl
 replace hxg:=hid hxg
 clear eqa eqb hv ha hb sa sb h hdec
 go_enter Tryz.func25,Tryz.ntmps25
 go_upto_region 1 with fail
 rw [←hwB]
 clear hwB
 go_wp2_with fail
 refine (HH.out).mono ?_
 rintro e w0 ⟨rfl,b1⟩
 have HK1:=hid (HK0.out.call b1)
 have HB1:=Ae HB0.out (by omega) HK1.out.1
 have Hqa:=fun (w':World) (hk:Af' wB (w.heap.size+1) w0 w')=>HQ1 w0 w' HB1 hk
 have Hqb:=fun (w':World) (hk:Af' wB (w.heap.size+1) w0 w')=>HQ2 w0 w' HB1 hk
 have H0:=HK1.out.begin6
 have H0':=H0
 unfold Af' at H0'
 clear HH HQ1 HQ2 b1
 go_wp2_with fail
 go_region_held3 (fun w'=>(∀ b o,b<w.heap.size+1→w'.cell? ⟨b,o,none⟩=wB.cell? ⟨b,o,none⟩)∧w'.cell? ⟨w.heap.size+1,0,none⟩=some (cur w' ⟨w.heap.size+1,0,none⟩)∧w'.cell? ⟨w.heap.size+1,1,none⟩=some (cur w' ⟨w.heap.size+1,1,none⟩)∧w'.cell? ⟨w.heap.size+1,2,none⟩=some (cur w' ⟨w.heap.size+1,2,none⟩)∧w'.cell? ⟨w.heap.size+1,3,none⟩=some (cur w' ⟨w.heap.size+1,3,none⟩)∧w'.cell? ⟨w.heap.size+1,4,none⟩=some (cur w' ⟨w.heap.size+1,4,none⟩)∧w'.cell? ⟨w.heap.size+1,5,none⟩=some (cur w' ⟨w.heap.size+1,5,none⟩)∧w'.frozen? ⟨w.heap.size+1,0,none⟩=false∧w'.frozen? ⟨w.heap.size+1,1,none⟩=false∧w'.frozen? ⟨w.heap.size+1,2,none⟩=false∧w'.frozen? ⟨w.heap.size+1,3,none⟩=false∧w'.frozen? ⟨w.heap.size+1,4,none⟩=false∧w'.frozen? ⟨w.heap.size+1,5,none⟩=false∧Ah 6 48 wB (w.heap.size+1) w'∧Ag' w0 w')
   (first | with_reducible exact H0' | with_reducible exact hk1' | with_reducible exact hk2' | with_reducible exact hk3' | exact hk3.store | (have hkb:=hk2.call ((Below.refl w2.heap.size w2).alloc (nL _) (.cells #[.bool (decide (qb.num<0)),.slice C3 (len qb.num.natAbs) j3,.slice C4 (len (below qb.den)) j4] 31));unfold Af' at hkb;exact hkb))
   (first | (go_at_call 69;have hc:=HA' (hv1.keep hbl2) HSa.out hv2 HSb.out;rw [←hxl.out,←hxg.out] at hc;refine hc.mono ?_;clear hc;rintro e w5 ⟨v5,rfl,hv5,hbl5⟩;obtain ⟨E1,i1,E2,i2,E3,i3,E4,i4,rfl,hp1,hp2⟩:=hv5.opened;have hk3:=(hk2.call ((Below.refl w2.heap.size w2).alloc (nL _) (.cells #[.bool (decide (qb.num<0)),.slice C3 (len qb.num.natAbs) j3,.slice C4 (len (below qb.den)) j4] 31))).call hbl5;have hk3':=hk3;unfold Af' at hk3') | (go_at_call 70;refine ((Hqb _ hk1).out).mono ?_;rintro e w2 ⟨v2,rfl,hv2,hbl2⟩;obtain ⟨C3,j3,C4,j4,rfl,-,-⟩:=id hv2.opened;have hk2:=hk1.call hbl2;have hk2':=hk2;unfold Af' at hk2') | (go_at_call 70;refine ((Hqa _ H0).out).mono ?_;rintro e w1 ⟨v1,rfl,hv1,hbl1⟩;obtain ⟨C1,j1,C2,j2,rfl,-,-⟩:=id hv1.opened;have hk1:=H0.call hbl1;have hk1':=hk1;unfold Af' at hk1'))
 rename_i hHl
 clear hHl
 have HD:=hk3.done (p:=xl) (q:=xg) (s1:=decide (xl.num<0)) (A1:=E1) (n1:=len xl.num.natAbs) (c1:=i1) (A2:=E2) (n2:=len (below xl.den)) (c2:=i2) (s2:=decide (xg.num<0)) (A3:=E3) (n3:=len xg.num.natAbs) (c3:=i3) (A4:=E4) (n4:=len (below xg.den)) (c4:=i4) (hp1) (hp2)
 obtain ⟨d1,d2,d3⟩:=HD
 obtain ⟨r0,r1,r2,r3,r4,r5⟩:=Ad' d3
 have HD:=hid (And.intro d1 d2)
 clear d1 d2 d3
 go_wp2_with fail
 refine bP (v:=.agg #[.bool (decide (xl.num<0)),.slice (E1) (len xl.num.natAbs) (i1),.slice (E2) (len (below xl.den)) (i2),.bool (decide (xg.num<0)),.slice (E3) (len xg.num.natAbs) (i3),.slice (E4) (len (below xg.den)) (i4)]) ?_ rfl ⟨_,rfl,HD.out.1,Ae HB0.out (by omega) HD.out.2⟩
 simp [results,Tryz.results25,go_sem,r0,r1,r2,r3,r4,r5]
theorem C0 {x y:Rat} (hx:Aa' x≤1073741824) (hy:Aa' y≤1073741824):Aa' (x / y)≤34359738368:=nT (Bs' x y) (by omega)
theorem Fd {w:World} {v u:Value} {a b c d:Rat} (hv:Am' w v a b) (hu:Am' w u c d) (hs1:Aa' a≤1073741824) (hs2:Aa' b≤1073741824) (hs3:Aa' c≤1073741824) (hs4:Aa' d≤1073741824) :
   Calls Tryz.prog 65 #[.func (.func 80) #[] #[],v,u] w (AJ' w (leastOf ((a / c)) [(a / d),(b / c),(b / d)]) (greatestOf ((a / c)) [(a / d),(b / c),(b / d)])):=by
 obtain ⟨A1,c1,A2,c2,A3,c3,A4,c4,rfl,ha,hb⟩:=hv.opened
 obtain ⟨A5,c5,A6,c6,A7,c7,A8,c8,rfl,hc,hd⟩:=hu.opened
 obtain ⟨wB,hwB⟩:=eX (((w.alloc (.cells #[.bool (decide (a.num<0)),.slice A1 (len a.num.natAbs) c1,.slice A2 (len (below a.den)) c2,.bool (decide (b.num<0)),.slice A3 (len b.num.natAbs) c3,.slice A4 (len (below b.den)) c4] 48)).alloc (.cells #[.bool (decide (c.num<0)),.slice A5 (len c.num.natAbs) c5,.slice A6 (len (below c.den)) c6,.bool (decide (d.num<0)),.slice A7 (len d.num.natAbs) c7,.slice A8 (len (below d.den)) c8] 48)).alloc (.cells #[.bool false,.slice none 0 0,.slice none 0 0,.bool false,.slice none 0 0,.slice none 0 0] 48))
 obtain ⟨b0,g0,g1,g2⟩:=Au' hwB
 obtain ⟨k0,k1,k2,k3,k4,k5⟩:=Ad' g0
 obtain ⟨k6,k7,k8,k9,k10,k11⟩:=Ad' g1
 have HK0:=hid (Ah.start (T:=48) rfl AP' g2)
 have HB0:=hid b0
 have hlt1:w.heap.size<w.heap.size+2:=by omega
 have hlt2:w.heap.size+1<w.heap.size+2:=by omega
 clear g0 g1 g2 b0
 obtain ⟨qa,eqa⟩:=eX (a / c:Rat)
 have HSa:Hid (Aa' qa≤34359738368):=by show _≤_;rw [eqa];exact C0 hs1 hs3
 have Hqa:=fun (w':World) (hk:Af' wB (w.heap.size+2) wB w')=>hid (BA' (hk.stay.num (ha.keep HB0.out)) (hk.stay.num (hc.keep HB0.out)) (nT hs1 (by omega)) (nT hs3 (by omega)))
 obtain ⟨qb,eqb⟩:=eX (a / d:Rat)
 have HSb:Hid (Aa' qb≤34359738368):=by show _≤_;rw [eqb];exact C0 hs1 hs4
 have Hqb:=fun (w':World) (hk:Af' wB (w.heap.size+2) wB w')=>hid (BA' (hk.stay.num (ha.keep HB0.out)) (hk.stay.num (hd.keep HB0.out)) (nT hs1 (by omega)) (nT hs4 (by omega)))
 obtain ⟨qc,eqc⟩:=eX (b / c:Rat)
 have HSc:Hid (Aa' qc≤34359738368):=by show _≤_;rw [eqc];exact C0 hs2 hs3
 have Hqc:=fun (w':World) (hk:Af' wB (w.heap.size+2) wB w')=>hid (BA' (hk.stay.num (hb.keep HB0.out)) (hk.stay.num (hc.keep HB0.out)) (nT hs2 (by omega)) (nT hs3 (by omega)))
 obtain ⟨qd,eqd⟩:=eX (b / d:Rat)
 have HSd:Hid (Aa' qd≤34359738368):=by show _≤_;rw [eqd];exact C0 hs2 hs4
 have Hqd:=fun (w':World) (hk:Af' wB (w.heap.size+2) wB w')=>hid (BA' (hk.stay.num (hb.keep HB0.out)) (hk.stay.num (hd.keep HB0.out)) (nT hs2 (by omega)) (nT hs4 (by omega)))
 rw [←eqa] at Hqa ⊢
 rw [←eqb] at Hqb ⊢
 rw [←eqc] at Hqc ⊢
 rw [←eqd] at Hqd ⊢
 obtain ⟨xl,hxl⟩:=eX (leastOf qa [qb,qc,qd]:Rat)
 obtain ⟨xg,hxg⟩:=eX (greatestOf qa [qb,qc,qd]:Rat)
 rw [←hxl,←hxg]
 replace hxl:=hid hxl
 replace hxg:=hid hxg
 have H0:=HK0.out.begin6
 have H0':=H0
 unfold Af' at H0'
 clear eqa eqb eqc eqd hv hu ha hb hc hd hs1 hs2 hs3 hs4
 go_enter Tryz.func65,Tryz.ntmps65
 go_upto_region 1 with fail
 rw [←hwB]
 clear hwB
 go_wp2_with fail
 go_region_held3 (fun w'=>(∀ b o,b<w.heap.size+2→w'.cell? ⟨b,o,none⟩=wB.cell? ⟨b,o,none⟩)∧w'.cell? ⟨w.heap.size+2,0,none⟩=some (cur w' ⟨w.heap.size+2,0,none⟩)∧w'.cell? ⟨w.heap.size+2,1,none⟩=some (cur w' ⟨w.heap.size+2,1,none⟩)∧w'.cell? ⟨w.heap.size+2,2,none⟩=some (cur w' ⟨w.heap.size+2,2,none⟩)∧w'.cell? ⟨w.heap.size+2,3,none⟩=some (cur w' ⟨w.heap.size+2,3,none⟩)∧w'.cell? ⟨w.heap.size+2,4,none⟩=some (cur w' ⟨w.heap.size+2,4,none⟩)∧w'.cell? ⟨w.heap.size+2,5,none⟩=some (cur w' ⟨w.heap.size+2,5,none⟩)∧w'.frozen? ⟨w.heap.size+2,0,none⟩=false∧w'.frozen? ⟨w.heap.size+2,1,none⟩=false∧w'.frozen? ⟨w.heap.size+2,2,none⟩=false∧w'.frozen? ⟨w.heap.size+2,3,none⟩=false∧w'.frozen? ⟨w.heap.size+2,4,none⟩=false∧w'.frozen? ⟨w.heap.size+2,5,none⟩=false∧Ah 6 48 wB (w.heap.size+2) w'∧Ag' wB w')
   (first | with_reducible exact H0' | with_reducible exact hk1' | with_reducible exact hk2' | with_reducible exact hk3' | with_reducible exact hk4' | with_reducible exact hk5' | exact hk5.store | (have hkb:=hk4.call ((Below.refl w4.heap.size w4).alloc (nL _) (.cells #[.bool (decide (qb.num<0)),.slice C3 (len qb.num.natAbs) j3,.slice C4 (len (below qb.den)) j4,.bool (decide (qc.num<0)),.slice C5 (len qc.num.natAbs) j5,.slice C6 (len (below qc.den)) j6,.bool (decide (qd.num<0)),.slice C7 (len qd.num.natAbs) j7,.slice C8 (len (below qd.den)) j8] 31));unfold Af' at hkb;exact hkb))
   (first | (go_at_call 69;have hc:=CU' (((hv1.keep hbl2).keep hbl3).keep hbl4) HSa.out ((hv2.keep hbl3).keep hbl4) HSb.out (hv3.keep hbl4) HSc.out hv4 HSd.out;rw [←hxl.out,←hxg.out] at hc;refine hc.mono ?_;clear hc;rintro e w5 ⟨v5,rfl,hv5,hbl5⟩;obtain ⟨E1,i1,E2,i2,E3,i3,E4,i4,rfl,hp1,hp2⟩:=hv5.opened;have hk5:=(hk4.call ((Below.refl w4.heap.size w4).alloc (nL _) (.cells #[.bool (decide (qb.num<0)),.slice C3 (len qb.num.natAbs) j3,.slice C4 (len (below qb.den)) j4,.bool (decide (qc.num<0)),.slice C5 (len qc.num.natAbs) j5,.slice C6 (len (below qc.den)) j6,.bool (decide (qd.num<0)),.slice C7 (len qd.num.natAbs) j7,.slice C8 (len (below qd.den)) j8] 31))).call hbl5;have hk5':=hk5;unfold Af' at hk5') | (go_at_call 80;refine ((Hqd _ hk3).out).mono ?_;rintro e w4 ⟨v4,rfl,hv4,hbl4⟩;obtain ⟨C7,j7,C8,j8,rfl,-,-⟩:=id hv4.opened;have hk4:=hk3.call hbl4;have hk4':=hk4;unfold Af' at hk4') | (go_at_call 80;refine ((Hqc _ hk2).out).mono ?_;rintro e w3 ⟨v3,rfl,hv3,hbl3⟩;obtain ⟨C5,j5,C6,j6,rfl,-,-⟩:=id hv3.opened;have hk3:=hk2.call hbl3;have hk3':=hk3;unfold Af' at hk3') | (go_at_call 80;refine ((Hqb _ hk1).out).mono ?_;rintro e w2 ⟨v2,rfl,hv2,hbl2⟩;obtain ⟨C3,j3,C4,j4,rfl,-,-⟩:=id hv2.opened;have hk2:=hk1.call hbl2;have hk2':=hk2;unfold Af' at hk2') | (go_at_call 80;refine ((Hqa _ H0).out).mono ?_;rintro e w1 ⟨v1,rfl,hv1,hbl1⟩;obtain ⟨C1,j1,C2,j2,rfl,-,-⟩:=id hv1.opened;have hk1:=H0.call hbl1;have hk1':=hk1;unfold Af' at hk1'))
 rename_i hHl
 clear hHl
 have HD:=hk5.done (p:=xl) (q:=xg) (s1:=decide (xl.num<0)) (A1:=E1) (n1:=len xl.num.natAbs) (c1:=i1) (A2:=E2) (n2:=len (below xl.den)) (c2:=i2) (s2:=decide (xg.num<0)) (A3:=E3) (n3:=len xg.num.natAbs) (c3:=i3) (A4:=E4) (n4:=len (below xg.den)) (c4:=i4) (hp1) (hp2)
 obtain ⟨d1,d2,d3⟩:=HD
 obtain ⟨r0,r1,r2,r3,r4,r5⟩:=Ad' d3
 have HD:=hid (And.intro d1 d2)
 clear d1 d2 d3
 go_wp2_with fail
 refine bP (v:=.agg #[.bool (decide (xl.num<0)),.slice (E1) (len xl.num.natAbs) (i1),.slice (E2) (len (below xl.den)) (i2),.bool (decide (xg.num<0)),.slice (E3) (len xg.num.natAbs) (i3),.slice (E4) (len (below xg.den)) (i4)]) ?_ rfl ⟨_,rfl,HD.out.1,Ae HB0.out (by omega) HD.out.2⟩
 simp [results,Tryz.results65,go_sem,r0,r1,r2,r3,r4,r5]
theorem FA' {w:World} {v u:Value} {a b c d:Rat} (hv:Am' w v a b) (hu:Am' w u c d) (hs1:Aa' a≤1073741824) (hs2:Aa' b≤1073741824) (hs3:Aa' c≤1073741824) (hs4:Aa' d≤1073741824) (h:(c≤0∧0≤d)) :
   Calls Tryz.prog 34 #[v,u] w (AM' w (0) (0) 10):=by
 obtain ⟨A1,c1,A2,c2,A3,c3,A4,c4,rfl,ha,hb⟩:=hv.opened
 obtain ⟨A5,c5,A6,c6,A7,c7,A8,c8,rfl,hc,hd⟩:=hu.opened
 obtain ⟨wB,hwB⟩:=eX (((w.alloc (.cells #[.bool (decide (a.num<0)),.slice A1 (len a.num.natAbs) c1,.slice A2 (len (below a.den)) c2,.bool (decide (b.num<0)),.slice A3 (len b.num.natAbs) c3,.slice A4 (len (below b.den)) c4] 48)).alloc (.cells #[.bool (decide (c.num<0)),.slice A5 (len c.num.natAbs) c5,.slice A6 (len (below c.den)) c6,.bool (decide (d.num<0)),.slice A7 (len d.num.natAbs) c7,.slice A8 (len (below d.den)) c8] 48)).alloc (.cells #[.bool false,.slice none 0 0,.slice none 0 0,.bool false,.slice none 0 0,.slice none 0 0] 48))
 obtain ⟨b0,g0,g1,g2⟩:=Au' hwB
 obtain ⟨k0,k1,k2,k3,k4,k5⟩:=Ad' g0
 obtain ⟨k6,k7,k8,k9,k10,k11⟩:=Ad' g1
 have HK0:=hid (Ah.start (T:=48) rfl AP' g2)
 have HB0:=hid b0
 have hlt1:w.heap.size<w.heap.size+2:=by omega
 have hlt2:w.heap.size+1<w.heap.size+2:=by omega
 clear g0 g1 g2 b0
 have HZ:Aa' 0≤34359738368:=nT (show Aa' 0≤3 by decide +kernel) (by omega)
 have HH:=hid (Co' (x:=0) (Af.pair (hc.keep HB0.out) (hd.keep HB0.out)) (Ay' wB) (nT hs3 (by omega)) (nT hs4 (by omega)) HZ)
 have hdec:decide (c≤0∧0≤d)=true:=dT_ h
 rw [hdec] at HH
 clear hv hu ha hb hc hd hs1 hs2 hs3 hs4 h hdec HZ
 go_enter Tryz.func34,Tryz.ntmps34
 go_upto_region 1 with fail
 rw [←hwB]
 clear hwB
 go_wp2_with fail
 refine (HH.out).mono ?_
 rintro e w1 ⟨rfl,b1⟩
 have HK1:=hid (HK0.out.call b1)
 have hk:=HK1.out.held6 (Ag'.refl _)
 have hk':=hk
 unfold Af' at hk'
 clear b1 HH
 obtain ⟨-,c0,c1',c2',c3',c4',c5',f0,f1,f2,f3,f4,f5,-⟩:=hk'
 have HD:=hk.done (p:=0) (q:=0) (s1:=false) (A1:=none) (n1:=0) (c1:=0) (A2:=none) (n2:=0) (c2:=0) (s2:=false) (A3:=none) (n3:=0) (c3:=0) (A4:=none) (n4:=0) (c4:=0) (Ay' _) (Ay' _)
 obtain ⟨d1,d2,d3⟩:=HD
 obtain ⟨r0,r1,r2,r3,r4,r5⟩:=Ad' d3
 have HD:=hid (And.intro d1 d2)
 clear d1 d2 d3
 go_wp2_with fail
 refine bP (v:=.tuple #[.agg #[.bool (false),.slice (none) (0) (0),.slice (none) (0) (0),.bool (false),.slice (none) (0) (0),.slice (none) (0) (0)],.int .i64 10]) ?_ rfl ⟨_,rfl,HD.out.1,Ae HB0.out (by omega) HD.out.2⟩
 simp [results,Tryz.results34,go_sem,r0,r1,r2,r3,r4,r5]
theorem Hc' {w:World} {v u:Value} {a b c d:Rat} (hv:Am' w v a b) (hu:Am' w u c d) (hs1:Aa' a≤1073741824) (hs2:Aa' b≤1073741824) (hs3:Aa' c≤1073741824) (hs4:Aa' d≤1073741824) (h:¬ (c≤0∧0≤d)) :
   Calls Tryz.prog 34 #[v,u] w (AM' w (leastOf ((a / c)) [(a / d),(b / c),(b / d)]) (greatestOf ((a / c)) [(a / d),(b / c),(b / d)]) 0):=by
 obtain ⟨A1,c1,A2,c2,A3,c3,A4,c4,rfl,ha,hb⟩:=hv.opened
 obtain ⟨A5,c5,A6,c6,A7,c7,A8,c8,rfl,hc,hd⟩:=hu.opened
 obtain ⟨wB,hwB⟩:=eX (((w.alloc (.cells #[.bool (decide (a.num<0)),.slice A1 (len a.num.natAbs) c1,.slice A2 (len (below a.den)) c2,.bool (decide (b.num<0)),.slice A3 (len b.num.natAbs) c3,.slice A4 (len (below b.den)) c4] 48)).alloc (.cells #[.bool (decide (c.num<0)),.slice A5 (len c.num.natAbs) c5,.slice A6 (len (below c.den)) c6,.bool (decide (d.num<0)),.slice A7 (len d.num.natAbs) c7,.slice A8 (len (below d.den)) c8] 48)).alloc (.cells #[.bool false,.slice none 0 0,.slice none 0 0,.bool false,.slice none 0 0,.slice none 0 0] 48))
 obtain ⟨b0,g0,g1,g2⟩:=Au' hwB
 obtain ⟨k0,k1,k2,k3,k4,k5⟩:=Ad' g0
 obtain ⟨k6,k7,k8,k9,k10,k11⟩:=Ad' g1
 have HK0:=hid (Ah.start (T:=48) rfl AP' g2)
 have HB0:=hid b0
 have hlt1:w.heap.size<w.heap.size+2:=by omega
 have hlt2:w.heap.size+1<w.heap.size+2:=by omega
 clear g0 g1 g2 b0
 have HZ:Aa' 0≤34359738368:=nT (show Aa' 0≤3 by decide +kernel) (by omega)
 have HH:=hid (Co' (x:=0) (Af.pair (hc.keep HB0.out) (hd.keep HB0.out)) (Ay' wB) (nT hs3 (by omega)) (nT hs4 (by omega)) HZ)
 have hdec:decide (c≤0∧0≤d)=false:=dF_ h
 rw [hdec] at HH
 have HX:=fun (w1:World) (hb1:Below w.heap.size w w1)=>hid (Fd (Af.pair (ha.keep hb1) (hb.keep hb1)) (Af.pair (hc.keep hb1) (hd.keep hb1)) hs1 hs2 hs3 hs4)
 obtain ⟨q,hq⟩:=eX (leastOf ((a / c)) [(a / d),(b / c),(b / d)]:Rat)
 obtain ⟨r,hr⟩:=eX (greatestOf ((a / c)) [(a / d),(b / c),(b / d)]:Rat)
 rw [←hq,←hr] at HX ⊢
 clear hq hr
 clear hv hu ha hb hc hd hs1 hs2 hs3 hs4 h hdec HZ
 go_enter Tryz.func34,Tryz.ntmps34
 go_upto_region 1 with fail
 rw [←hwB]
 clear hwB
 go_wp2_with fail
 refine (HH.out).mono ?_
 rintro e w1 ⟨rfl,b1⟩
 have HK1:=hid (HK0.out.call b1)
 have hbc:=Aj HK1.out.1
 have HY:=HX w1 (Ae HB0.out (by omega) HK1.out.1)
 clear HX HH b1
 go_wp2_with fail
 refine (HY.out).mono ?_
 rintro e w5 ⟨v5,rfl,hv5,b5⟩
 obtain ⟨C1,j1,C2,j2,C3,j3,C4,j4,rfl,hq1,hr1⟩:=hv5.opened
 have hk:=(HK1.out.call b5).held6 (Ag'.refl _)
 have hk':=hk
 unfold Af' at hk'
 clear b5 HY hbc
 obtain ⟨-,c0,c1',c2',c3',c4',c5',f0,f1,f2,f3,f4,f5,-⟩:=hk'
 have HD:=hk.done (p:=q) (q:=r) (s1:=decide (q.num<0)) (A1:=C1) (n1:=len q.num.natAbs) (c1:=j1) (A2:=C2) (n2:=len (below q.den)) (c2:=j2) (s2:=decide (r.num<0)) (A3:=C3) (n3:=len r.num.natAbs) (c3:=j3) (A4:=C4) (n4:=len (below r.den)) (c4:=j4) (hq1) (hr1)
 obtain ⟨d1,d2,d3⟩:=HD
 obtain ⟨r0,r1,r2,r3,r4,r5⟩:=Ad' d3
 have HD:=hid (And.intro d1 d2)
 clear d1 d2 d3
 go_wp2_with fail
 refine bP (v:=.tuple #[.agg #[.bool (decide (q.num<0)),.slice (C1) (len q.num.natAbs) (j1),.slice (C2) (len (below q.den)) (j2),.bool (decide (r.num<0)),.slice (C3) (len r.num.natAbs) (j3),.slice (C4) (len (below r.den)) (j4)],.int .i64 0]) ?_ rfl ⟨_,rfl,HD.out.1,Ae HB0.out (by omega) HD.out.2⟩
 simp [results,Tryz.results34,go_sem,r0,r1,r2,r3,r4,r5]
end Go.Proofs.YtlcimajjnfbidaaGreatDoor
