/-
  Contracts of the functions that the law calls, for every input (Ec).
-/
import Derived.Test.YtlcimajjnfbidaaGreatDoorZ00
import Derived.Test.YtlcimajjnfbidaaGreatDoorZ41
import Derived.Test.YtlcimajjnfbidaaGreatDoorZ40
import Derived.Test.YtlcimajjnfbidaaGreatDoorZ42
import Derived.Deep.AppendLies
set_option linter.all false
set_option maxRecDepth 100000
set_option maxHeartbeats 40000000
namespace Go.Proofs.YtlcimajjnfbidaaGreatDoor.Rf
open Lib (hid)
open Go.RowKit
open Rx
open Vx (Aa' Ao Ao')
open List renaming getElem?_toArray → lg, getElem?_cons_zero → lz, getElem?_cons_succ → ls, setIfInBounds_toArray → lt, set_cons_zero → ly, set_cons_succ → lu
theorem FQ {u w':World} {v:Value} {z g:Nat} {T:TypeId} {s0 s1:Bool} {A0 B0 A1 B1:Option Addr} {n0 c0 m0 d0 n1 c1 m1 d1:Nat} (L:u.heap[g]?=some (.cells #[.bool s0,.slice A0 n0 c0,.slice B0 m0 d0,.bool s1,.slice A1 n1 c1,.slice B1 m1 d1] T (0,0)))
   (hg:u.grownBy w' (some g)) (h:Am u v z):Am w' v z:=by
 obtain ⟨A,c,h1,h2,h3,h4,h5⟩:=h
 refine ⟨A,c,h1,h2,h3,h4,fun hx=>?_⟩
 obtain ⟨b,o,h6,h7,h8⟩:=h5 hx
 have hne:b≠g:=by
   rintro rfl
   have e0:=h8 0 hx
   rw [cR _ _ _ _ _ _ L] at e0
   match o,e0 with
   | 0,e0=>exact Value.noConfusion (Option.some.inj e0)
   | 1,e0=>exact Value.noConfusion (Option.some.inj e0)
   | 2,e0=>exact Value.noConfusion (Option.some.inj e0)
   | 3,e0=>exact Value.noConfusion (Option.some.inj e0)
   | 4,e0=>exact Value.noConfusion (Option.some.inj e0)
   | 5,e0=>exact Value.noConfusion (Option.some.inj e0)
   | o+6,e0=>simp at e0
 exact ⟨b,o,h6,ltl h7 hg.size,fun j hj=>(hg.cell_far ⟨b,o+j,none⟩ h7 (fun e=>hne (Option.some.inj e))).trans (h8 j hj)⟩
theorem Cs' {u w':World} {v:Value} {q:Rat} {g:Nat} {T:TypeId} {s0 s1:Bool} {A0 B0 A1 B1:Option Addr} {n0 c0 m0 d0 n1 c1 m1 d1:Nat} (L:u.heap[g]?=some (.cells #[.bool s0,.slice A0 n0 c0,.slice B0 m0 d0,.bool s1,.slice A1 n1 c1,.slice B1 m1 d1] T (0,0)))
   (hg:u.grownBy w' (some g)) (h:Ah' u v q):Ah' w' v q:=by
 obtain ⟨v1,v2,e,h1,h2⟩:=h
 exact ⟨v1,v2,e,FQ L hg h1,FQ L hg h2⟩
theorem DW {w:World} {n:Nat} {a b d:Rat} {s1 s2 s3:Bool} {A1 A2 A3 A4 A5 A6:Option Addr} {n1 c1 n2 c2 n3 c3 n4 c4 n5 c5 n6 c6:Nat} {T:TypeId} {cur:Array Value} (L:w.heap[n]?=some (.cells cur T (0,0)))
   (hc:cur.toList.take 9=[.bool s1,.slice A1 n1 c1,.slice A2 n2 c2,.bool s2,.slice A3 n3 c3,.slice A4 n4 c4,.bool s3,.slice A5 n5 c5,.slice A6 n6 c6]) (h1:Ah' w (.agg #[.bool s1,.slice A1 n1 c1,.slice A2 n2 c2]) a) (h2:Ah' w (.agg #[.bool s2,.slice A3 n3 c3,.slice A4 n4 c4]) b) (h3:Ah' w (.agg #[.bool s3,.slice A5 n5 c5,.slice A6 n6 c6]) d) :
   BI' w n 0 [a,b,d]:=by
 have hcell:∀ (i:Nat) (v:Value),i<9→(cur.toList.take 9)[i]?=some v→w.cell? ⟨n,i,none⟩=some v:=by
   intro i v hi hv
   rw [List.getElem?_take_of_lt hi,Array.getElem?_toList] at hv
   exact cR _ _ i _ _ _ L |>.trans hv
 rw [hc] at hcell
 intro i r hi
 match i,hi with
 | 0,hi=>obtain rfl:=Option.some.inj hi;exact ⟨s1,A1,n1,c1,A2,n2,c2,hcell 0 _ (by omega) rfl,hcell 1 _ (by omega) rfl,hcell 2 _ (by omega) rfl,h1⟩
 | 1,hi=>obtain rfl:=Option.some.inj hi;exact ⟨s2,A3,n3,c3,A4,n4,c4,hcell 3 _ (by omega) rfl,hcell 4 _ (by omega) rfl,hcell 5 _ (by omega) rfl,h2⟩
 | 2,hi=>obtain rfl:=Option.some.inj hi;exact ⟨s3,A5,n5,c5,A6,n6,c6,hcell 6 _ (by omega) rfl,hcell 7 _ (by omega) rfl,hcell 8 _ (by omega) rfl,h3⟩
 | _+3,hi=>exact absurd hi (by simp)
theorem Fd':∃ (i:TypeInfo) (z:Value) (bytes:Nat),Tryz.prog.info? 39=some i∧i.zero=some z∧i.size=3∧i.bytes=bytes∧z.cells.size=3∧bytes≤1000:=⟨_,_,_,rfl,rfl,rfl,rfl,rfl,by decide⟩
theorem Et' {a b:Rat} {N:Nat} (ha:Aa' a≤N) (hb:Aa' b≤N):∀ y∈[a,b],Aa' y≤N:=by
 intro y hy
 simp only [List.mem_cons,List.not_mem_nil,or_false] at hy
 rcases hy with rfl | rfl <;> assumption
theorem Dx' {a b c:Rat} {N:Nat} (ha:Aa' a≤N) (hb:Aa' b≤N) (hc:Aa' c≤N):∀ y∈[a,b,c],Aa' y≤N:=by
 intro y hy
 simp only [List.mem_cons,List.not_mem_nil,or_false] at hy
 rcases hy with rfl | rfl | rfl <;> assumption
theorem FC {w:World} {vx:Value} {a b l h:Rat} (el:leastOf a.abs [b.abs]=l) (eh:greatestOf a.abs [b.abs]=h) (hd:decide (a≤0∧0≤b)=false) (hx:Aq w vx a b) (sa:Aa' a≤16777216) (sb:Aa' b≤16777216) :
   Calls Tryz.prog 26 #[vx] w (AZ' w l h):=by
 obtain ⟨z0,ez0⟩:=eY (((0:Int):Rat):Rat)
 have e00:z0=0:=by rw [←ez0];rfl
 have sz0:Aa' z0≤3:=by rw [e00];exact Br
 replace hd:decide (a≤z0∧z0≤b)=false:=by rw [e00];exact hd
 obtain ⟨c,ec⟩:=eY (a.abs:Rat)
 have tc:Aa' c≤16777216:=by rw [←ec,Bj'];omega
 obtain ⟨d,ed⟩:=eY (b.abs:Rat)
 have td:Aa' d≤16777216:=by rw [←ed,Bj'];omega
 rw [ec,ed] at el eh
 have hsm:=hid (Et' tc td)
 have ma:=hid (show Aa' a≤16777216 by omega)
 have mb:=hid (show Aa' b≤16777216 by omega)
 have mz:=hid (show Aa' z0≤16777216 by omega)
 clear sa sb tc td sz0 e00
 replace el:=hid el
 replace eh:=hid eh
 replace ec:=hid ec
 replace ed:=hid ed
 replace ez0:=hid ez0
 replace hd:=hid hd
 obtain ⟨C1,j1,C2,j2,C3,j3,C4,j4,rfl,hxl,hxh⟩:=id hx.opened
 replace hx:=hid hx
 replace hxl:=hid hxl
 replace hxh:=hid hxh
 obtain ⟨w1,hw1⟩:=eX (((w.alloc (.cells #[.bool (decide (a.num<0)),.slice C1 (len a.num.natAbs) j1,.slice C2 (len a.den) j2,.bool (decide (b.num<0)),.slice C3 (len b.num.natAbs) j3,.slice C4 (len b.den) j4] 50)).alloc (.cells #[.bool false,.slice none 0 0,.slice none 0 0,.bool false,.slice none 0 0,.slice none 0 0] 50)))
 obtain ⟨b1,g1,g2⟩:=Aq' hw1
 replace g1:=hid g1
 replace g2:=hid g2
 replace b1:=hid b1
 go_enter Tryz.func26,Tryz.ntmps26
 go_upto_region 1 with fail
 rw [←hw1]
 clear hw1
 go_wp2_with fail
 have HSZa:Hid ((w.heap.size+1)≤w1.heap.size):=hid (by have:=AO (Ac' g2.out (Below.refl _ w1));omega)
 obtain ⟨z_x_0,z_x_1,z_x_2,z_x_3,z_x_4,z_x_5⟩:=Ad' g1.out
 have hlta_x:w.heap.size<(w.heap.size+1):=by omega
 have H0:=Ae'.start w1 (w.heap.size+1)
 have H0':=H0
 unfold Ae' at H0'
 refine wp_region_held_drew (S:=(fun w'=>(∀ b o,b<(w.heap.size+1)→w'.cell? ⟨b,o,none⟩=w1.cell? ⟨b,o,none⟩)∧Below ((w.heap.size+1)) w1 w'∧Ag' w1 w')) (by kernel_rfl) ?_ (fun hHeld=>?_)
 · (try dsimp only)
   exact H0'
 obtain ⟨w2,hw2⟩:=eX w1.drew
 have b2:Hid (Below w1.heap.size w1 w2):=by rw [hw2];exact ⟨rfl,rfl,rfl,nL _,fun _ _=>rfl⟩
 rw [←hw2] at hHeld H0 ⊢
 clear hw2 H0'
 refine tk (i:=0) (h:=?_)
 try simp only [Act.put,lt,ly,lu]
 refine tk (i:=1) (h:=?_)
 try simp only [Act.put,lt,ly,lu]
 refine tk (i:=3) (h:=?_)
 try simp only [Act.put,lt,ly,lu]
 refine tk (i:=4) (h:=?_)
 try simp only [Act.put,lt,ly,lu]
 have y0_2:=hid (bS b1.out b2.out)
 refine rd (i:=2) (h:=fun K hK=>?_);go_simp;go_at_call 71
 refine (CY ec.out (hxl.out.keep y0_2.out)).mono ?_
 rintro e w3 ⟨v3,rfl,hv3,b3⟩
 obtain ⟨C5,j5,C6,j6,rfl,-,-⟩:=id hv3.opened
 replace hv3:=hid hv3
 replace b3:=hid b3
 have hk3:=Ak' H0 HSZa b3.out;clear hHeld H0
 refine hK.out _ _ (by (try dsimp only);with_reducible exact hun hk3) (fun hHeld=>?_)
 clear hK K;try simp only [Act.put,lt,ly,lu]
 have y0_3:=hid (bS y0_2.out b3.out)
 refine rd (i:=5) (h:=fun K hK=>?_);go_simp;go_at_call 71
 refine (CY ed.out (hxh.out.keep y0_3.out)).mono ?_
 rintro e w4 ⟨v4,rfl,hv4,b4⟩
 obtain ⟨C7,j7,C8,j8,rfl,-,-⟩:=id hv4.opened
 replace hv4:=hid hv4
 replace b4:=hid b4
 have hk4:=Ak' hk3 HSZa b4.out;clear hHeld hk3
 refine hK.out _ _ (by (try dsimp only);with_reducible exact hun hk4) (fun hHeld=>?_)
 clear hK K;try simp only [Act.put,lt,ly,lu]
 refine wpAnyH_ready (rs:=[6]) (by kernel_rfl) (by simp) (AllReadyH.cons (o:=?oq7) ?eq7 ?kq7 AllReadyH.nil)
 case eq7=>simp only [lg,lz,ls];rfl
 intro K hK;go_simp
 obtain ⟨w5,hw5⟩:=eX (w4.alloc (.cells #[.bool (decide (c.num<0)),.slice C5 (len c.num.natAbs) j5,.slice C6 (len c.den) j6,.bool (decide (d.num<0)),.slice C7 (len d.num.natAbs) j7,.slice C8 (len d.den) j8] 39))
 have b5:Below w4.heap.size w4 w5:=BE hw5
 have HR5:=hid (CG (Bh hw5) (((hv3.out.keep b4.out)).keep b5) ((hv4.out).keep b5))
 have L5:=hid (Bh hw5)
 rw [←hw5]
 clear hw5
 have hk5:=Ak' hk4 HSZa b5;replace b5:=hid b5;have hk5':=hk5;unfold Ae' at hk5';clear hHeld hk4
 refine hK.out _ _ ?_ (fun hHeld=>?_)
 · (try dsimp only);with_reducible exact hk5'
 clear hK K hk5';try simp only [Act.put,lt,ly,lu]
 refine tk (i:=7) (h:=?_)
 try simp only [Act.put,lt,ly,lu]
 refine wpAnyH_done (by kernel_rfl) ?_ _
 clear hHeld
 clear z_x_0 z_x_1 z_x_2 z_x_3 z_x_4 z_x_5 hlta_x
 go_wp2_with fail
 have y1_5:=hid (bS (bS (bS b2.out b3.out) b4.out) b5.out)
 have HSZb:Hid ((w.heap.size+1)≤w5.heap.size):=hid (by have:=AO (Ac' g2.out y1_5.out);omega)
 obtain ⟨z_x_0,z_x_1,z_x_2,z_x_3,z_x_4,z_x_5⟩:=Ad' (Ac' g1.out y1_5.out)
 have hltb_x:w.heap.size<(w.heap.size+1):=by omega
 have H0:=Ae'.start w5 (w.heap.size+1)
 have H0':=H0
 unfold Ae' at H0'
 refine wp_region_held_drew (S:=(fun w'=>(∀ b o,b<(w.heap.size+1)→w'.cell? ⟨b,o,none⟩=w5.cell? ⟨b,o,none⟩)∧Below ((w.heap.size+1)) w5 w'∧Ag' w5 w')) (by kernel_rfl) ?_ (fun hHeld=>?_)
 · (try dsimp only)
   exact H0'
 obtain ⟨w6,hw6⟩:=eX w5.drew
 have b6:Hid (Below w5.heap.size w5 w6):=by rw [hw6];exact ⟨rfl,rfl,rfl,nL _,fun _ _=>rfl⟩
 rw [←hw6] at hHeld H0 ⊢
 clear hw6 H0'
 refine tk (i:=0) (h:=?_)
 try simp only [Act.put,lt,ly,lu]
 refine rd (i:=1) (h:=fun K hK=>?_);go_simp;go_at_call 11
 refine (BB' (w:=w6) ez0.out (by omega) (by omega)).mono ?_
 rintro e w7 ⟨v7,rfl,hv7,b7⟩
 obtain ⟨C9,j9,C10,j10,rfl,-,-⟩:=id hv7.opened
 replace hv7:=hid hv7
 replace b7:=hid b7
 have hk7:=Ak' H0 HSZb b7.out;clear hHeld H0
 refine hK.out _ _ (by (try dsimp only);with_reducible exact hun hk7) (fun hHeld=>?_)
 clear hK K;try simp only [Act.put,lt,ly,lu]
 have y0_7:=hid (bS (bS (bS (bS y0_3.out b4.out) b5.out) b6.out) b7.out)
 refine rd (i:=2) (h:=fun K hK=>?_);go_simp;go_at_call 35
 refine (Cb hd.out (hx.out.keep y0_7.out) hv7.out ma.out mb.out mz.out).mono ?_
 rintro e w8 ⟨rfl,b8⟩
 replace b8:=hid b8
 have hk8:=Ak' hk7 HSZb b8.out;clear hHeld hk7
 refine hK.out _ _ (by (try dsimp only);with_reducible exact hun hk8) (fun hHeld=>?_)
 clear hK K;try simp only [Act.put,lt,ly,lu]
 refine wpAnyH_done (by kernel_rfl) ?_ _
 clear hHeld
 clear z_x_0 z_x_1 z_x_2 z_x_3 z_x_4 z_x_5 hltb_x
 have y5_8:=hid (bS (bS b6.out b7.out) b8.out)
 have HX:=hid (BU' (c:=2) el.out eh.out (HR5.out.keep y5_8.out) (by simp) hsm.out)
 go_wp2_with fail
 refine (HX.out).mono ?_
 rintro e w9 ⟨v9,rfl,hv9,b9⟩
 obtain ⟨C11,j11,C12,j12,C13,j13,C14,j14,rfl,-,-,-,-⟩:=id hv9.opened
 replace hv9:=hid hv9
 replace b9:=hid b9
 clear HX
 have y1_9:=hid (bS (bS (bS (bS y1_5.out b6.out) b7.out) b8.out) b9.out)
 have DR:=(Ac' g2.out y1_9.out)
 have q0:w9.cell? ⟨w.heap.size+1,0,none⟩=some (.bool false):=cR _ _ _ _ _ _ DR
 have F0:w9.frozen? ⟨w.heap.size+1,0,none⟩=false:=fR w9 (w.heap.size+1) 0 _ _ DR
 have q1:w9.cell? ⟨w.heap.size+1,1,none⟩=some (.slice none 0 0):=cR _ _ _ _ _ _ DR
 have F1:w9.frozen? ⟨w.heap.size+1,1,none⟩=false:=fR w9 (w.heap.size+1) 1 _ _ DR
 have q2:w9.cell? ⟨w.heap.size+1,2,none⟩=some (.slice none 0 0):=cR _ _ _ _ _ _ DR
 have F2:w9.frozen? ⟨w.heap.size+1,2,none⟩=false:=fR w9 (w.heap.size+1) 2 _ _ DR
 have q3:w9.cell? ⟨w.heap.size+1,3,none⟩=some (.bool false):=cR _ _ _ _ _ _ DR
 have F3:w9.frozen? ⟨w.heap.size+1,3,none⟩=false:=fR w9 (w.heap.size+1) 3 _ _ DR
 have q4:w9.cell? ⟨w.heap.size+1,4,none⟩=some (.slice none 0 0):=cR _ _ _ _ _ _ DR
 have F4:w9.frozen? ⟨w.heap.size+1,4,none⟩=false:=fR w9 (w.heap.size+1) 4 _ _ DR
 have q5:w9.cell? ⟨w.heap.size+1,5,none⟩=some (.slice none 0 0):=cR _ _ _ _ _ _ DR
 have F5:w9.frozen? ⟨w.heap.size+1,5,none⟩=false:=fR w9 (w.heap.size+1) 5 _ _ DR
 have y0_9:=hid (bS (bS y0_7.out b8.out) b9.out)
 have FB:=y0_9.out
 have FV:=hv9.out
 obtain ⟨ue,hw⟩:=eX (((((((w9.setCell ⟨w.heap.size+1,0,none⟩ (.bool (decide (l.num<0)))).setCell ⟨w.heap.size+1,1,none⟩ (.slice C11 (len l.num.natAbs) j11)).setCell ⟨w.heap.size+1,2,none⟩ (.slice C12 (len l.den) j12)).setCell ⟨w.heap.size+1,3,none⟩ (.bool (decide (h.num<0)))).setCell ⟨w.heap.size+1,4,none⟩ (.slice C13 (len h.num.natAbs) j13)).setCell ⟨w.heap.size+1,5,none⟩ (.slice C14 (len h.den) j14)))
 obtain ⟨E_ue,-,LV,BL⟩:=AH DR hw
 have FE:=hid (LV.rbox FV)
 replace FB:=hid (BL _ _ (by omega) FB)
 replace E_ue:=hid E_ue
 replace hw:=hid hw
 clear DR FV LV BL
 go_wp2_with fail
 rw [←hw.out]
 obtain ⟨r0,r1,r2,r3,r4,r5⟩:=Ad' E_ue.out
 refine bP (v:=.agg #[.bool (decide (l.num<0)),.slice C11 (len l.num.natAbs) j11,.slice C12 (len l.den) j12,.bool (decide (h.num<0)),.slice C13 (len h.num.natAbs) j13,.slice C14 (len h.den) j14]) ?_ rfl ⟨_,rfl,FE.out,FB.out⟩
 simp [results,Tryz.results26,go_sem,r0,r1,r2,r3,r4,r5]
theorem Gn {w:World} {vx:Value} {a b l h:Rat} (el:leastOf a.abs [b.abs,0]=l) (eh:greatestOf a.abs [b.abs,0]=h) (hd:decide (a≤0∧0≤b)=true) (hx:Aq w vx a b) (sa:Aa' a≤16777216) (sb:Aa' b≤16777216) :
   Calls Tryz.prog 26 #[vx] w (AZ' w l h):=by
 obtain ⟨z0,ez0⟩:=eY (((0:Int):Rat):Rat)
 have e00:z0=0:=by rw [←ez0];rfl
 have sz0:Aa' z0≤3:=by rw [e00];exact Br
 replace hd:decide (a≤z0∧z0≤b)=true:=by rw [e00];exact hd
 obtain ⟨c,ec⟩:=eY (a.abs:Rat)
 have tc:Aa' c≤16777216:=by rw [←ec,Bj'];omega
 obtain ⟨d,ed⟩:=eY (b.abs:Rat)
 have td:Aa' d≤16777216:=by rw [←ed,Bj'];omega
 rw [ec,ed] at el eh
 rw [←e00] at el eh
 have hsm:=hid (Dx' tc td (show Aa' z0≤16777216 by omega))
 have ma:=hid (show Aa' a≤16777216 by omega)
 have mb:=hid (show Aa' b≤16777216 by omega)
 have mz:=hid (show Aa' z0≤16777216 by omega)
 clear sa sb tc td sz0 e00
 replace el:=hid el
 replace eh:=hid eh
 replace ec:=hid ec
 replace ed:=hid ed
 replace ez0:=hid ez0
 replace hd:=hid hd
 obtain ⟨C1,j1,C2,j2,C3,j3,C4,j4,rfl,hxl,hxh⟩:=id hx.opened
 replace hx:=hid hx
 replace hxl:=hid hxl
 replace hxh:=hid hxh
 obtain ⟨w1,hw1⟩:=eX (((w.alloc (.cells #[.bool (decide (a.num<0)),.slice C1 (len a.num.natAbs) j1,.slice C2 (len a.den) j2,.bool (decide (b.num<0)),.slice C3 (len b.num.natAbs) j3,.slice C4 (len b.den) j4] 50)).alloc (.cells #[.bool false,.slice none 0 0,.slice none 0 0,.bool false,.slice none 0 0,.slice none 0 0] 50)))
 obtain ⟨b1,g1,g2⟩:=Aq' hw1
 replace g1:=hid g1
 replace g2:=hid g2
 replace b1:=hid b1
 go_enter Tryz.func26,Tryz.ntmps26
 go_upto_region 1 with fail
 rw [←hw1]
 clear hw1
 go_wp2_with fail
 have HSZa:Hid ((w.heap.size+1)≤w1.heap.size):=hid (by have:=AO (Ac' g2.out (Below.refl _ w1));omega)
 obtain ⟨z_x_0,z_x_1,z_x_2,z_x_3,z_x_4,z_x_5⟩:=Ad' g1.out
 have hlta_x:w.heap.size<(w.heap.size+1):=by omega
 have H0:=Ae'.start w1 (w.heap.size+1)
 have H0':=H0
 unfold Ae' at H0'
 refine wp_region_held_drew (S:=(fun w'=>(∀ b o,b<(w.heap.size+1)→w'.cell? ⟨b,o,none⟩=w1.cell? ⟨b,o,none⟩)∧Below ((w.heap.size+1)) w1 w'∧Ag' w1 w')) (by kernel_rfl) ?_ (fun hHeld=>?_)
 · (try dsimp only)
   exact H0'
 obtain ⟨w2,hw2⟩:=eX w1.drew
 have b2:Hid (Below w1.heap.size w1 w2):=by rw [hw2];exact ⟨rfl,rfl,rfl,nL _,fun _ _=>rfl⟩
 rw [←hw2] at hHeld H0 ⊢
 clear hw2 H0'
 refine tk (i:=0) (h:=?_)
 try simp only [Act.put,lt,ly,lu]
 refine tk (i:=1) (h:=?_)
 try simp only [Act.put,lt,ly,lu]
 refine tk (i:=3) (h:=?_)
 try simp only [Act.put,lt,ly,lu]
 refine tk (i:=4) (h:=?_)
 try simp only [Act.put,lt,ly,lu]
 have y0_2:=hid (bS b1.out b2.out)
 refine rd (i:=2) (h:=fun K hK=>?_);go_simp;go_at_call 71
 refine (CY ec.out (hxl.out.keep y0_2.out)).mono ?_
 rintro e w3 ⟨v3,rfl,hv3,b3⟩
 obtain ⟨C5,j5,C6,j6,rfl,-,-⟩:=id hv3.opened
 replace hv3:=hid hv3
 replace b3:=hid b3
 have hk3:=Ak' H0 HSZa b3.out;clear hHeld H0
 refine hK.out _ _ (by (try dsimp only);with_reducible exact hun hk3) (fun hHeld=>?_)
 clear hK K;try simp only [Act.put,lt,ly,lu]
 have y0_3:=hid (bS y0_2.out b3.out)
 refine rd (i:=5) (h:=fun K hK=>?_);go_simp;go_at_call 71
 refine (CY ed.out (hxh.out.keep y0_3.out)).mono ?_
 rintro e w4 ⟨v4,rfl,hv4,b4⟩
 obtain ⟨C7,j7,C8,j8,rfl,-,-⟩:=id hv4.opened
 replace hv4:=hid hv4
 replace b4:=hid b4
 have hk4:=Ak' hk3 HSZa b4.out;clear hHeld hk3
 refine hK.out _ _ (by (try dsimp only);with_reducible exact hun hk4) (fun hHeld=>?_)
 clear hK K;try simp only [Act.put,lt,ly,lu]
 refine wpAnyH_ready (rs:=[6]) (by kernel_rfl) (by simp) (AllReadyH.cons (o:=?oq18) ?eq18 ?kq18 AllReadyH.nil)
 case eq18=>simp only [lg,lz,ls];rfl
 intro K hK;go_simp
 obtain ⟨w5,hw5⟩:=eX (w4.alloc (.cells #[.bool (decide (c.num<0)),.slice C5 (len c.num.natAbs) j5,.slice C6 (len c.den) j6,.bool (decide (d.num<0)),.slice C7 (len d.num.natAbs) j7,.slice C8 (len d.den) j8] 39))
 have b5:Below w4.heap.size w4 w5:=BE hw5
 have HR5:=hid (CG (Bh hw5) (((hv3.out.keep b4.out)).keep b5) ((hv4.out).keep b5))
 have L5:=hid (Bh hw5)
 rw [←hw5]
 clear hw5
 have hk5:=Ak' hk4 HSZa b5;replace b5:=hid b5;have hk5':=hk5;unfold Ae' at hk5';clear hHeld hk4
 refine hK.out _ _ ?_ (fun hHeld=>?_)
 · (try dsimp only);with_reducible exact hk5'
 clear hK K hk5';try simp only [Act.put,lt,ly,lu]
 refine tk (i:=7) (h:=?_)
 try simp only [Act.put,lt,ly,lu]
 refine wpAnyH_done (by kernel_rfl) ?_ _
 clear hHeld
 clear z_x_0 z_x_1 z_x_2 z_x_3 z_x_4 z_x_5 hlta_x
 go_wp2_with fail
 have y1_5:=hid (bS (bS (bS b2.out b3.out) b4.out) b5.out)
 have HSZb:Hid ((w.heap.size+1)≤w5.heap.size):=hid (by have:=AO (Ac' g2.out y1_5.out);omega)
 obtain ⟨z_x_0,z_x_1,z_x_2,z_x_3,z_x_4,z_x_5⟩:=Ad' (Ac' g1.out y1_5.out)
 have hltb_x:w.heap.size<(w.heap.size+1):=by omega
 have H0:=Ae'.start w5 (w.heap.size+1)
 have H0':=H0
 unfold Ae' at H0'
 refine wp_region_held_drew (S:=(fun w'=>(∀ b o,b<(w.heap.size+1)→w'.cell? ⟨b,o,none⟩=w5.cell? ⟨b,o,none⟩)∧Below ((w.heap.size+1)) w5 w'∧Ag' w5 w')) (by kernel_rfl) ?_ (fun hHeld=>?_)
 · (try dsimp only)
   exact H0'
 obtain ⟨w6,hw6⟩:=eX w5.drew
 have b6:Hid (Below w5.heap.size w5 w6):=by rw [hw6];exact ⟨rfl,rfl,rfl,nL _,fun _ _=>rfl⟩
 rw [←hw6] at hHeld H0 ⊢
 clear hw6 H0'
 refine tk (i:=0) (h:=?_)
 try simp only [Act.put,lt,ly,lu]
 refine rd (i:=1) (h:=fun K hK=>?_);go_simp;go_at_call 11
 refine (BB' (w:=w6) ez0.out (by omega) (by omega)).mono ?_
 rintro e w7 ⟨v7,rfl,hv7,b7⟩
 obtain ⟨C9,j9,C10,j10,rfl,-,-⟩:=id hv7.opened
 replace hv7:=hid hv7
 replace b7:=hid b7
 have hk7:=Ak' H0 HSZb b7.out;clear hHeld H0
 refine hK.out _ _ (by (try dsimp only);with_reducible exact hun hk7) (fun hHeld=>?_)
 clear hK K;try simp only [Act.put,lt,ly,lu]
 have y0_7:=hid (bS (bS (bS (bS y0_3.out b4.out) b5.out) b6.out) b7.out)
 refine rd (i:=2) (h:=fun K hK=>?_);go_simp;go_at_call 35
 refine (Cb hd.out (hx.out.keep y0_7.out) hv7.out ma.out mb.out mz.out).mono ?_
 rintro e w8 ⟨rfl,b8⟩
 replace b8:=hid b8
 have hk8:=Ak' hk7 HSZb b8.out;clear hHeld hk7
 refine hK.out _ _ (by (try dsimp only);with_reducible exact hun hk8) (fun hHeld=>?_)
 clear hK K;try simp only [Act.put,lt,ly,lu]
 refine wpAnyH_done (by kernel_rfl) ?_ _
 clear hHeld
 clear z_x_0 z_x_1 z_x_2 z_x_3 z_x_4 z_x_5 hltb_x
 have HX:=hid (BB' (w:=w8) ez0.out (by omega) (by omega))
 go_wp2_with fail
 refine (HX.out).mono ?_
 rintro e w9 ⟨v9,rfl,hv9,b9⟩
 obtain ⟨C11,j11,C12,j12,rfl,-,-⟩:=id hv9.opened
 replace hv9:=hid hv9
 replace b9:=hid b9
 clear HX
 have y5_9:=hid (bS (bS (bS b6.out b7.out) b8.out) b9.out)
 have y3_9:=hid (bS (bS (bS (bS (bS b4.out b5.out) b6.out) b7.out) b8.out) b9.out)
 have y4_9:=hid (bS (bS (bS (bS b5.out b6.out) b7.out) b8.out) b9.out)
 obtain ⟨ti,tz,tb,hi1,hi2,hi3,hi4,hi5,hi6⟩:=Fd'
 have hab:=Ai w9 (.cells #[.bool (decide (z0.num<0)),.slice C11 (len z0.num.natAbs) j11,.slice C12 (len z0.den) j12] 39)
 have hLR:(w9.alloc (.cells #[.bool (decide (z0.num<0)),.slice C11 (len z0.num.natAbs) j11,.slice C12 (len z0.den) j12] 39)).heap[w4.heap.size]?=some (.cells #[.bool (decide (c.num<0)),.slice C5 (len c.num.natAbs) j5,.slice C6 (len c.den) j6,.bool (decide (d.num<0)),.slice C7 (len d.num.natAbs) j7,.slice C8 (len d.den) j8] 39 (0,0)):=Ac' (Ac' L5.out y5_9.out) hab
 have hown:(w9.alloc (.cells #[.bool (decide (z0.num<0)),.slice C11 (len z0.num.natAbs) j11,.slice C12 (len z0.den) j12] 39)).ownsRow 0 39 3 (.slice (some ⟨w4.heap.size,0,none⟩) 2 2) 2 [.bool (decide (c.num<0)),.slice C5 (len c.num.natAbs) j5,.slice C6 (len c.den) j6,.bool (decide (d.num<0)),.slice C7 (len d.num.natAbs) j7,.slice C8 (len d.den) j8]:=⟨rfl,Or.inr ⟨w4.heap.size,2,#[.bool (decide (c.num<0)),.slice C5 (len c.num.natAbs) j5,.slice C6 (len c.den) j6,.bool (decide (d.num<0)),.slice C7 (len d.num.natAbs) j7,.slice C8 (len d.den) j8],rfl,Nat.zero_le _,hLR,nL _,by decide,rfl,rfl⟩⟩
 have hnews:=World.news_of_block (hA_ w9 (.cells #[.bool (decide (z0.num<0)),.slice C11 (len z0.num.natAbs) j11,.slice C12 (len z0.den) j12] 39))
 have hnew1:∀ u∈([.bool (decide (z0.num<0)),.slice C11 (len z0.num.natAbs) j11,.slice C12 (len z0.den) j12]:List Value),u.oneCell'=true:=by intro u hu;simp only [List.mem_cons,List.not_mem_nil,or_false] at hu;rcases hu with rfl | rfl | rfl <;> rfl
 have ga:=hid (((hv3.out.keep y3_9.out)).keep hab)
 have gb:=hid (((hv4.out.keep y4_9.out)).keep hab)
 have gc:=hid ((hv9.out).keep hab)
 have hbv:=hid (bS (bS b5.out y5_9.out) hab)
 replace hLR:=hid hLR
 clear hab
 go_wp2_with (at_builtin;refine wpList_append_lies _ rfl _ _ _ rfl 0 39 ti tz 3 tb Tryz.underlying24 hi1 hi2 hi3 hi4 hi5 (by omega) _ 2 _ (by rfl) hown _ 1 1 [.bool (decide (z0.num<0)),.slice C11 (len z0.num.natAbs) j11,.slice C12 (len z0.den) j12] (by rfl) rfl hnews hnew1 (by omega) (by decide) (by omega) (Nat.zero_le _) _ rfl ?_;intro g cap w10 hown' A9 hat hlt)
 clear hown hnews hnew1 hi1 hi2 hi3 hi4 hi5 hi6 hat hlt
 have hbj:=hid (Below.grown hbv.out A9 hbv.out.size (fun r hr=>by have:w4.heap.size=r:=Option.some.inj hr;omega))
 have qa:=Cs' hLR.out A9 ga.out
 have qb:=Cs' hLR.out A9 gb.out
 have qc:=Cs' hLR.out A9 gc.out
 obtain ⟨g',cap',cur,hv,-,hg,-,-,-,htk⟩:=hown'.2.resolve_left (fun h=>absurd h.2 (by omega))
 have hgg:g=g':=by injection hv with e1;injection e1 with e2;injection e2
 subst hgg
 have hrow:=hid (DW hg htk qa qb qc)
 clear hbv hg htk hv hown' A9 qa qb qc ga gb gc hLR
 have HX:=hid (BU' (c:=cap) el.out eh.out hrow.out (by simp) hsm.out)
 go_wp2_with fail
 refine (HX.out).mono ?_
 rintro e w11 ⟨v11,rfl,hv11,b11⟩
 obtain ⟨C13,j13,C14,j14,C15,j15,C16,j16,rfl,-,-,-,-⟩:=id hv11.opened
 replace hv11:=hid hv11
 replace b11:=hid b11
 clear HX
 have DR:=(Ac' g2.out (bS (bS (bS (bS b2.out b3.out) b4.out) hbj.out) b11.out))
 have q0:w11.cell? ⟨w.heap.size+1,0,none⟩=some (.bool false):=cR _ _ _ _ _ _ DR
 have F0:w11.frozen? ⟨w.heap.size+1,0,none⟩=false:=fR w11 (w.heap.size+1) 0 _ _ DR
 have q1:w11.cell? ⟨w.heap.size+1,1,none⟩=some (.slice none 0 0):=cR _ _ _ _ _ _ DR
 have F1:w11.frozen? ⟨w.heap.size+1,1,none⟩=false:=fR w11 (w.heap.size+1) 1 _ _ DR
 have q2:w11.cell? ⟨w.heap.size+1,2,none⟩=some (.slice none 0 0):=cR _ _ _ _ _ _ DR
 have F2:w11.frozen? ⟨w.heap.size+1,2,none⟩=false:=fR w11 (w.heap.size+1) 2 _ _ DR
 have q3:w11.cell? ⟨w.heap.size+1,3,none⟩=some (.bool false):=cR _ _ _ _ _ _ DR
 have F3:w11.frozen? ⟨w.heap.size+1,3,none⟩=false:=fR w11 (w.heap.size+1) 3 _ _ DR
 have q4:w11.cell? ⟨w.heap.size+1,4,none⟩=some (.slice none 0 0):=cR _ _ _ _ _ _ DR
 have F4:w11.frozen? ⟨w.heap.size+1,4,none⟩=false:=fR w11 (w.heap.size+1) 4 _ _ DR
 have q5:w11.cell? ⟨w.heap.size+1,5,none⟩=some (.slice none 0 0):=cR _ _ _ _ _ _ DR
 have F5:w11.frozen? ⟨w.heap.size+1,5,none⟩=false:=fR w11 (w.heap.size+1) 5 _ _ DR
 have FB:=(bS (bS (bS (bS (bS b1.out b2.out) b3.out) b4.out) hbj.out) b11.out)
 have FV:=hv11.out
 obtain ⟨ue,hw⟩:=eX (((((((w11.setCell ⟨w.heap.size+1,0,none⟩ (.bool (decide (l.num<0)))).setCell ⟨w.heap.size+1,1,none⟩ (.slice C13 (len l.num.natAbs) j13)).setCell ⟨w.heap.size+1,2,none⟩ (.slice C14 (len l.den) j14)).setCell ⟨w.heap.size+1,3,none⟩ (.bool (decide (h.num<0)))).setCell ⟨w.heap.size+1,4,none⟩ (.slice C15 (len h.num.natAbs) j15)).setCell ⟨w.heap.size+1,5,none⟩ (.slice C16 (len h.den) j16)))
 obtain ⟨E_ue,-,LV,BL⟩:=AH DR hw
 have FE:=hid (LV.rbox FV)
 replace FB:=hid (BL _ _ (by omega) FB)
 replace E_ue:=hid E_ue
 replace hw:=hid hw
 clear DR FV LV BL
 go_wp2_with fail
 rw [←hw.out]
 obtain ⟨r0,r1,r2,r3,r4,r5⟩:=Ad' E_ue.out
 refine bP (v:=.agg #[.bool (decide (l.num<0)),.slice C13 (len l.num.natAbs) j13,.slice C14 (len l.den) j14,.bool (decide (h.num<0)),.slice C15 (len h.num.natAbs) j15,.slice C16 (len h.den) j16]) ?_ rfl ⟨_,rfl,FE.out,FB.out⟩
 simp [results,Tryz.results26,go_sem,r0,r1,r2,r3,r4,r5]
theorem FC' {w:World} {vx:Value} {a b l h:Rat} {n:Nat} (el:leastOf (a^n) [b^n]=l) (eh:greatestOf (a^n) [b^n]=h) (hd:decide (a≤0∧0≤b)=false) (hx:Aq w vx a b) (sa:Aa' a≤100000) (sb:Aa' b≤100000) (hn:n≤64) :
   Calls Tryz.prog 33 #[vx,.int .i64 (n:Nat)] w (AZ' w l h):=by
 obtain ⟨z0,ez0⟩:=eY (((0:Int):Rat):Rat)
 have e00:z0=0:=by rw [←ez0];rfl
 have sz0:Aa' z0≤3:=by rw [e00];exact Br
 replace hd:decide (a≤z0∧z0≤b)=false:=by rw [e00];exact hd
 obtain ⟨c,ec⟩:=eY (a^n:Rat)
 have tc:Aa' c≤16777216:=by
   rw [←ec]
   refine nT (Cb' a n) ?_
   have:=Nat.mul_le_mul sa hn
   omega
 obtain ⟨d,ed⟩:=eY (b^n:Rat)
 have td:Aa' d≤16777216:=by
   rw [←ed]
   refine nT (Cb' b n) ?_
   have:=Nat.mul_le_mul sb hn
   omega
 rw [ec,ed] at el eh
 have hsm:=hid (Et' tc td)
 have ma:=hid (show Aa' a≤16777216 by omega)
 have mb:=hid (show Aa' b≤16777216 by omega)
 have mz:=hid (show Aa' z0≤16777216 by omega)
 replace sa:=hid sa
 replace sb:=hid sb
 have pz:=hid (show Aa' z0≤100000 by omega)
 replace hn:=hid hn
 clear tc td sz0 e00
 replace el:=hid el
 replace eh:=hid eh
 replace ec:=hid ec
 replace ed:=hid ed
 replace ez0:=hid ez0
 replace hd:=hid hd
 obtain ⟨C1,j1,C2,j2,C3,j3,C4,j4,rfl,hxl,hxh⟩:=id hx.opened
 replace hx:=hid hx
 replace hxl:=hid hxl
 replace hxh:=hid hxh
 obtain ⟨w1,hw1⟩:=eX (((w.alloc (.cells #[.bool (decide (a.num<0)),.slice C1 (len a.num.natAbs) j1,.slice C2 (len a.den) j2,.bool (decide (b.num<0)),.slice C3 (len b.num.natAbs) j3,.slice C4 (len b.den) j4] 50)).alloc (.cells #[.bool false,.slice none 0 0,.slice none 0 0,.bool false,.slice none 0 0,.slice none 0 0] 50)))
 obtain ⟨b1,g1,g2⟩:=Aq' hw1
 replace g1:=hid g1
 replace g2:=hid g2
 replace b1:=hid b1
 go_enter Tryz.func33,Tryz.ntmps33
 go_upto_region 1 with fail
 rw [←hw1]
 clear hw1
 go_wp2_with fail
 have HSZa:Hid ((w.heap.size+1)≤w1.heap.size):=hid (by have:=AO (Ac' g2.out (Below.refl _ w1));omega)
 obtain ⟨z_x_0,z_x_1,z_x_2,z_x_3,z_x_4,z_x_5⟩:=Ad' g1.out
 have hlta_x:w.heap.size<(w.heap.size+1):=by omega
 have H0:=Ae'.start w1 (w.heap.size+1)
 have H0':=H0
 unfold Ae' at H0'
 refine wp_region_held_drew (S:=(fun w'=>(∀ b o,b<(w.heap.size+1)→w'.cell? ⟨b,o,none⟩=w1.cell? ⟨b,o,none⟩)∧Below ((w.heap.size+1)) w1 w'∧Ag' w1 w')) (by kernel_rfl) ?_ (fun hHeld=>?_)
 · (try dsimp only)
   exact H0'
 obtain ⟨w2,hw2⟩:=eX w1.drew
 have b2:Hid (Below w1.heap.size w1 w2):=by rw [hw2];exact ⟨rfl,rfl,rfl,nL _,fun _ _=>rfl⟩
 rw [←hw2] at hHeld H0 ⊢
 clear hw2 H0'
 refine tk (i:=0) (h:=?_)
 try simp only [Act.put,lt,ly,lu]
 refine tk (i:=1) (h:=?_)
 try simp only [Act.put,lt,ly,lu]
 refine tk (i:=2) (h:=?_)
 try simp only [Act.put,lt,ly,lu]
 refine tk (i:=4) (h:=?_)
 try simp only [Act.put,lt,ly,lu]
 refine tk (i:=5) (h:=?_)
 try simp only [Act.put,lt,ly,lu]
 refine tk (i:=6) (h:=?_)
 try simp only [Act.put,lt,ly,lu]
 have y0_2:=hid (bS b1.out b2.out)
 refine rd (i:=3) (h:=fun K hK=>?_);go_simp;go_at_call 79
 refine (CA ec.out (hxl.out.keep y0_2.out) sa.out hn.out).mono ?_
 rintro e w3 ⟨v3,rfl,hv3,b3⟩
 obtain ⟨C5,j5,C6,j6,rfl,-,-⟩:=id hv3.opened
 replace hv3:=hid hv3
 replace b3:=hid b3
 have hk3:=Ak' H0 HSZa b3.out;clear hHeld H0
 refine hK.out _ _ (by (try dsimp only);with_reducible exact hun hk3) (fun hHeld=>?_)
 clear hK K;try simp only [Act.put,lt,ly,lu]
 have y0_3:=hid (bS y0_2.out b3.out)
 refine rd (i:=7) (h:=fun K hK=>?_);go_simp;go_at_call 79
 refine (CA ed.out (hxh.out.keep y0_3.out) sb.out hn.out).mono ?_
 rintro e w4 ⟨v4,rfl,hv4,b4⟩
 obtain ⟨C7,j7,C8,j8,rfl,-,-⟩:=id hv4.opened
 replace hv4:=hid hv4
 replace b4:=hid b4
 have hk4:=Ak' hk3 HSZa b4.out;clear hHeld hk3
 refine hK.out _ _ (by (try dsimp only);with_reducible exact hun hk4) (fun hHeld=>?_)
 clear hK K;try simp only [Act.put,lt,ly,lu]
 refine wpAnyH_ready (rs:=[8]) (by kernel_rfl) (by simp) (AllReadyH.cons (o:=?oq31) ?eq31 ?kq31 AllReadyH.nil)
 case eq31=>simp only [lg,lz,ls];rfl
 intro K hK;go_simp
 obtain ⟨w5,hw5⟩:=eX (w4.alloc (.cells #[.bool (decide (c.num<0)),.slice C5 (len c.num.natAbs) j5,.slice C6 (len c.den) j6,.bool (decide (d.num<0)),.slice C7 (len d.num.natAbs) j7,.slice C8 (len d.den) j8] 39))
 have b5:Below w4.heap.size w4 w5:=BE hw5
 have HR5:=hid (CG (Bh hw5) (((hv3.out.keep b4.out)).keep b5) ((hv4.out).keep b5))
 have L5:=hid (Bh hw5)
 rw [←hw5]
 clear hw5
 have hk5:=Ak' hk4 HSZa b5;replace b5:=hid b5;have hk5':=hk5;unfold Ae' at hk5';clear hHeld hk4
 refine hK.out _ _ ?_ (fun hHeld=>?_)
 · (try dsimp only);with_reducible exact hk5'
 clear hK K hk5';try simp only [Act.put,lt,ly,lu]
 refine tk (i:=9) (h:=?_)
 try simp only [Act.put,lt,ly,lu]
 refine wpAnyH_done (by kernel_rfl) ?_ _
 clear hHeld
 clear z_x_0 z_x_1 z_x_2 z_x_3 z_x_4 z_x_5 hlta_x
 go_wp2_with fail
 have y1_5:=hid (bS (bS (bS b2.out b3.out) b4.out) b5.out)
 have HSZb:Hid ((w.heap.size+1)≤w5.heap.size):=hid (by have:=AO (Ac' g2.out y1_5.out);omega)
 obtain ⟨z_x_0,z_x_1,z_x_2,z_x_3,z_x_4,z_x_5⟩:=Ad' (Ac' g1.out y1_5.out)
 have hltb_x:w.heap.size<(w.heap.size+1):=by omega
 have H0:=Ae'.start w5 (w.heap.size+1)
 have H0':=H0
 unfold Ae' at H0'
 refine wp_region_held_drew (S:=(fun w'=>(∀ b o,b<(w.heap.size+1)→w'.cell? ⟨b,o,none⟩=w5.cell? ⟨b,o,none⟩)∧Below ((w.heap.size+1)) w5 w'∧Ag' w5 w')) (by kernel_rfl) ?_ (fun hHeld=>?_)
 · (try dsimp only)
   exact H0'
 obtain ⟨w6,hw6⟩:=eX w5.drew
 have b6:Hid (Below w5.heap.size w5 w6):=by rw [hw6];exact ⟨rfl,rfl,rfl,nL _,fun _ _=>rfl⟩
 rw [←hw6] at hHeld H0 ⊢
 clear hw6 H0'
 refine tk (i:=0) (h:=?_)
 try simp only [Act.put,lt,ly,lu]
 refine rd (i:=1) (h:=fun K hK=>?_);go_simp;go_at_call 11
 refine (BB' (w:=w6) ez0.out (by omega) (by omega)).mono ?_
 rintro e w7 ⟨v7,rfl,hv7,b7⟩
 obtain ⟨C9,j9,C10,j10,rfl,-,-⟩:=id hv7.opened
 replace hv7:=hid hv7
 replace b7:=hid b7
 have hk7:=Ak' H0 HSZb b7.out;clear hHeld H0
 refine hK.out _ _ (by (try dsimp only);with_reducible exact hun hk7) (fun hHeld=>?_)
 clear hK K;try simp only [Act.put,lt,ly,lu]
 have y0_7:=hid (bS (bS (bS (bS y0_3.out b4.out) b5.out) b6.out) b7.out)
 refine rd (i:=2) (h:=fun K hK=>?_);go_simp;go_at_call 35
 refine (Cb hd.out (hx.out.keep y0_7.out) hv7.out ma.out mb.out mz.out).mono ?_
 rintro e w8 ⟨rfl,b8⟩
 replace b8:=hid b8
 have hk8:=Ak' hk7 HSZb b8.out;clear hHeld hk7
 refine hK.out _ _ (by (try dsimp only);with_reducible exact hun hk8) (fun hHeld=>?_)
 clear hK K;try simp only [Act.put,lt,ly,lu]
 refine wpAnyH_done (by kernel_rfl) ?_ _
 clear hHeld
 clear z_x_0 z_x_1 z_x_2 z_x_3 z_x_4 z_x_5 hltb_x
 have y5_8:=hid (bS (bS b6.out b7.out) b8.out)
 have HX:=hid (BU' (c:=2) el.out eh.out (HR5.out.keep y5_8.out) (by simp) hsm.out)
 go_wp2_with fail
 refine (HX.out).mono ?_
 rintro e w9 ⟨v9,rfl,hv9,b9⟩
 obtain ⟨C11,j11,C12,j12,C13,j13,C14,j14,rfl,-,-,-,-⟩:=id hv9.opened
 replace hv9:=hid hv9
 replace b9:=hid b9
 clear HX
 have y1_9:=hid (bS (bS (bS (bS y1_5.out b6.out) b7.out) b8.out) b9.out)
 have DR:=(Ac' g2.out y1_9.out)
 have q0:w9.cell? ⟨w.heap.size+1,0,none⟩=some (.bool false):=cR _ _ _ _ _ _ DR
 have F0:w9.frozen? ⟨w.heap.size+1,0,none⟩=false:=fR w9 (w.heap.size+1) 0 _ _ DR
 have q1:w9.cell? ⟨w.heap.size+1,1,none⟩=some (.slice none 0 0):=cR _ _ _ _ _ _ DR
 have F1:w9.frozen? ⟨w.heap.size+1,1,none⟩=false:=fR w9 (w.heap.size+1) 1 _ _ DR
 have q2:w9.cell? ⟨w.heap.size+1,2,none⟩=some (.slice none 0 0):=cR _ _ _ _ _ _ DR
 have F2:w9.frozen? ⟨w.heap.size+1,2,none⟩=false:=fR w9 (w.heap.size+1) 2 _ _ DR
 have q3:w9.cell? ⟨w.heap.size+1,3,none⟩=some (.bool false):=cR _ _ _ _ _ _ DR
 have F3:w9.frozen? ⟨w.heap.size+1,3,none⟩=false:=fR w9 (w.heap.size+1) 3 _ _ DR
 have q4:w9.cell? ⟨w.heap.size+1,4,none⟩=some (.slice none 0 0):=cR _ _ _ _ _ _ DR
 have F4:w9.frozen? ⟨w.heap.size+1,4,none⟩=false:=fR w9 (w.heap.size+1) 4 _ _ DR
 have q5:w9.cell? ⟨w.heap.size+1,5,none⟩=some (.slice none 0 0):=cR _ _ _ _ _ _ DR
 have F5:w9.frozen? ⟨w.heap.size+1,5,none⟩=false:=fR w9 (w.heap.size+1) 5 _ _ DR
 have y0_9:=hid (bS (bS y0_7.out b8.out) b9.out)
 have FB:=y0_9.out
 have FV:=hv9.out
 obtain ⟨ue,hw⟩:=eX (((((((w9.setCell ⟨w.heap.size+1,0,none⟩ (.bool (decide (l.num<0)))).setCell ⟨w.heap.size+1,1,none⟩ (.slice C11 (len l.num.natAbs) j11)).setCell ⟨w.heap.size+1,2,none⟩ (.slice C12 (len l.den) j12)).setCell ⟨w.heap.size+1,3,none⟩ (.bool (decide (h.num<0)))).setCell ⟨w.heap.size+1,4,none⟩ (.slice C13 (len h.num.natAbs) j13)).setCell ⟨w.heap.size+1,5,none⟩ (.slice C14 (len h.den) j14)))
 obtain ⟨E_ue,-,LV,BL⟩:=AH DR hw
 have FE:=hid (LV.rbox FV)
 replace FB:=hid (BL _ _ (by omega) FB)
 replace E_ue:=hid E_ue
 replace hw:=hid hw
 clear DR FV LV BL
 go_wp2_with fail
 rw [←hw.out]
 obtain ⟨r0,r1,r2,r3,r4,r5⟩:=Ad' E_ue.out
 refine bP (v:=.agg #[.bool (decide (l.num<0)),.slice C11 (len l.num.natAbs) j11,.slice C12 (len l.den) j12,.bool (decide (h.num<0)),.slice C13 (len h.num.natAbs) j13,.slice C14 (len h.den) j14]) ?_ rfl ⟨_,rfl,FE.out,FB.out⟩
 simp [results,Tryz.results33,go_sem,r0,r1,r2,r3,r4,r5]
theorem Gn' {w:World} {vx:Value} {a b l h:Rat} {n:Nat} (el:leastOf (a^n) [b^n,0^n]=l) (eh:greatestOf (a^n) [b^n,0^n]=h) (hd:decide (a≤0∧0≤b)=true) (hx:Aq w vx a b) (sa:Aa' a≤100000) (sb:Aa' b≤100000) (hn:n≤64) :
   Calls Tryz.prog 33 #[vx,.int .i64 (n:Nat)] w (AZ' w l h):=by
 obtain ⟨z0,ez0⟩:=eY (((0:Int):Rat):Rat)
 have e00:z0=0:=by rw [←ez0];rfl
 have sz0:Aa' z0≤3:=by rw [e00];exact Br
 replace hd:decide (a≤z0∧z0≤b)=true:=by rw [e00];exact hd
 obtain ⟨c,ec⟩:=eY (a^n:Rat)
 have tc:Aa' c≤16777216:=by
   rw [←ec]
   refine nT (Cb' a n) ?_
   have:=Nat.mul_le_mul sa hn
   omega
 obtain ⟨d,ed⟩:=eY (b^n:Rat)
 have td:Aa' d≤16777216:=by
   rw [←ed]
   refine nT (Cb' b n) ?_
   have:=Nat.mul_le_mul sb hn
   omega
 obtain ⟨t,et⟩:=eY (z0^n:Rat)
 have tt:Aa' t≤16777216:=by
   rw [←et]
   refine nT (Cb' z0 n) ?_
   have:=Nat.mul_le_mul sz0 hn
   omega
 rw [show ((0:Rat)^n)=t by rw [←et,e00]] at el eh
 rw [ec,ed] at el eh
 have hsm:=hid (Dx' tc td tt)
 have ma:=hid (show Aa' a≤16777216 by omega)
 have mb:=hid (show Aa' b≤16777216 by omega)
 have mz:=hid (show Aa' z0≤16777216 by omega)
 replace sa:=hid sa
 replace sb:=hid sb
 have pz:=hid (show Aa' z0≤100000 by omega)
 replace hn:=hid hn
 clear tc td sz0 e00 tt
 replace et:=hid et
 replace el:=hid el
 replace eh:=hid eh
 replace ec:=hid ec
 replace ed:=hid ed
 replace ez0:=hid ez0
 replace hd:=hid hd
 obtain ⟨C1,j1,C2,j2,C3,j3,C4,j4,rfl,hxl,hxh⟩:=id hx.opened
 replace hx:=hid hx
 replace hxl:=hid hxl
 replace hxh:=hid hxh
 obtain ⟨w1,hw1⟩:=eX (((w.alloc (.cells #[.bool (decide (a.num<0)),.slice C1 (len a.num.natAbs) j1,.slice C2 (len a.den) j2,.bool (decide (b.num<0)),.slice C3 (len b.num.natAbs) j3,.slice C4 (len b.den) j4] 50)).alloc (.cells #[.bool false,.slice none 0 0,.slice none 0 0,.bool false,.slice none 0 0,.slice none 0 0] 50)))
 obtain ⟨b1,g1,g2⟩:=Aq' hw1
 replace g1:=hid g1
 replace g2:=hid g2
 replace b1:=hid b1
 go_enter Tryz.func33,Tryz.ntmps33
 go_upto_region 1 with fail
 rw [←hw1]
 clear hw1
 go_wp2_with fail
 have HSZa:Hid ((w.heap.size+1)≤w1.heap.size):=hid (by have:=AO (Ac' g2.out (Below.refl _ w1));omega)
 obtain ⟨z_x_0,z_x_1,z_x_2,z_x_3,z_x_4,z_x_5⟩:=Ad' g1.out
 have hlta_x:w.heap.size<(w.heap.size+1):=by omega
 have H0:=Ae'.start w1 (w.heap.size+1)
 have H0':=H0
 unfold Ae' at H0'
 refine wp_region_held_drew (S:=(fun w'=>(∀ b o,b<(w.heap.size+1)→w'.cell? ⟨b,o,none⟩=w1.cell? ⟨b,o,none⟩)∧Below ((w.heap.size+1)) w1 w'∧Ag' w1 w')) (by kernel_rfl) ?_ (fun hHeld=>?_)
 · (try dsimp only)
   exact H0'
 obtain ⟨w2,hw2⟩:=eX w1.drew
 have b2:Hid (Below w1.heap.size w1 w2):=by rw [hw2];exact ⟨rfl,rfl,rfl,nL _,fun _ _=>rfl⟩
 rw [←hw2] at hHeld H0 ⊢
 clear hw2 H0'
 refine tk (i:=0) (h:=?_)
 try simp only [Act.put,lt,ly,lu]
 refine tk (i:=1) (h:=?_)
 try simp only [Act.put,lt,ly,lu]
 refine tk (i:=2) (h:=?_)
 try simp only [Act.put,lt,ly,lu]
 refine tk (i:=4) (h:=?_)
 try simp only [Act.put,lt,ly,lu]
 refine tk (i:=5) (h:=?_)
 try simp only [Act.put,lt,ly,lu]
 refine tk (i:=6) (h:=?_)
 try simp only [Act.put,lt,ly,lu]
 have y0_2:=hid (bS b1.out b2.out)
 refine rd (i:=3) (h:=fun K hK=>?_);go_simp;go_at_call 79
 refine (CA ec.out (hxl.out.keep y0_2.out) sa.out hn.out).mono ?_
 rintro e w3 ⟨v3,rfl,hv3,b3⟩
 obtain ⟨C5,j5,C6,j6,rfl,-,-⟩:=id hv3.opened
 replace hv3:=hid hv3
 replace b3:=hid b3
 have hk3:=Ak' H0 HSZa b3.out;clear hHeld H0
 refine hK.out _ _ (by (try dsimp only);with_reducible exact hun hk3) (fun hHeld=>?_)
 clear hK K;try simp only [Act.put,lt,ly,lu]
 have y0_3:=hid (bS y0_2.out b3.out)
 refine rd (i:=7) (h:=fun K hK=>?_);go_simp;go_at_call 79
 refine (CA ed.out (hxh.out.keep y0_3.out) sb.out hn.out).mono ?_
 rintro e w4 ⟨v4,rfl,hv4,b4⟩
 obtain ⟨C7,j7,C8,j8,rfl,-,-⟩:=id hv4.opened
 replace hv4:=hid hv4
 replace b4:=hid b4
 have hk4:=Ak' hk3 HSZa b4.out;clear hHeld hk3
 refine hK.out _ _ (by (try dsimp only);with_reducible exact hun hk4) (fun hHeld=>?_)
 clear hK K;try simp only [Act.put,lt,ly,lu]
 refine wpAnyH_ready (rs:=[8]) (by kernel_rfl) (by simp) (AllReadyH.cons (o:=?oq44) ?eq44 ?kq44 AllReadyH.nil)
 case eq44=>simp only [lg,lz,ls];rfl
 intro K hK;go_simp
 obtain ⟨w5,hw5⟩:=eX (w4.alloc (.cells #[.bool (decide (c.num<0)),.slice C5 (len c.num.natAbs) j5,.slice C6 (len c.den) j6,.bool (decide (d.num<0)),.slice C7 (len d.num.natAbs) j7,.slice C8 (len d.den) j8] 39))
 have b5:Below w4.heap.size w4 w5:=BE hw5
 have HR5:=hid (CG (Bh hw5) (((hv3.out.keep b4.out)).keep b5) ((hv4.out).keep b5))
 have L5:=hid (Bh hw5)
 rw [←hw5]
 clear hw5
 have hk5:=Ak' hk4 HSZa b5;replace b5:=hid b5;have hk5':=hk5;unfold Ae' at hk5';clear hHeld hk4
 refine hK.out _ _ ?_ (fun hHeld=>?_)
 · (try dsimp only);with_reducible exact hk5'
 clear hK K hk5';try simp only [Act.put,lt,ly,lu]
 refine tk (i:=9) (h:=?_)
 try simp only [Act.put,lt,ly,lu]
 refine wpAnyH_done (by kernel_rfl) ?_ _
 clear hHeld
 clear z_x_0 z_x_1 z_x_2 z_x_3 z_x_4 z_x_5 hlta_x
 go_wp2_with fail
 have y1_5:=hid (bS (bS (bS b2.out b3.out) b4.out) b5.out)
 have HSZb:Hid ((w.heap.size+1)≤w5.heap.size):=hid (by have:=AO (Ac' g2.out y1_5.out);omega)
 obtain ⟨z_x_0,z_x_1,z_x_2,z_x_3,z_x_4,z_x_5⟩:=Ad' (Ac' g1.out y1_5.out)
 have hltb_x:w.heap.size<(w.heap.size+1):=by omega
 have H0:=Ae'.start w5 (w.heap.size+1)
 have H0':=H0
 unfold Ae' at H0'
 refine wp_region_held_drew (S:=(fun w'=>(∀ b o,b<(w.heap.size+1)→w'.cell? ⟨b,o,none⟩=w5.cell? ⟨b,o,none⟩)∧Below ((w.heap.size+1)) w5 w'∧Ag' w5 w')) (by kernel_rfl) ?_ (fun hHeld=>?_)
 · (try dsimp only)
   exact H0'
 obtain ⟨w6,hw6⟩:=eX w5.drew
 have b6:Hid (Below w5.heap.size w5 w6):=by rw [hw6];exact ⟨rfl,rfl,rfl,nL _,fun _ _=>rfl⟩
 rw [←hw6] at hHeld H0 ⊢
 clear hw6 H0'
 refine tk (i:=0) (h:=?_)
 try simp only [Act.put,lt,ly,lu]
 refine rd (i:=1) (h:=fun K hK=>?_);go_simp;go_at_call 11
 refine (BB' (w:=w6) ez0.out (by omega) (by omega)).mono ?_
 rintro e w7 ⟨v7,rfl,hv7,b7⟩
 obtain ⟨C9,j9,C10,j10,rfl,-,-⟩:=id hv7.opened
 replace hv7:=hid hv7
 replace b7:=hid b7
 have hk7:=Ak' H0 HSZb b7.out;clear hHeld H0
 refine hK.out _ _ (by (try dsimp only);with_reducible exact hun hk7) (fun hHeld=>?_)
 clear hK K;try simp only [Act.put,lt,ly,lu]
 have y0_7:=hid (bS (bS (bS (bS y0_3.out b4.out) b5.out) b6.out) b7.out)
 refine rd (i:=2) (h:=fun K hK=>?_);go_simp;go_at_call 35
 refine (Cb hd.out (hx.out.keep y0_7.out) hv7.out ma.out mb.out mz.out).mono ?_
 rintro e w8 ⟨rfl,b8⟩
 replace b8:=hid b8
 have hk8:=Ak' hk7 HSZb b8.out;clear hHeld hk7
 refine hK.out _ _ (by (try dsimp only);with_reducible exact hun hk8) (fun hHeld=>?_)
 clear hK K;try simp only [Act.put,lt,ly,lu]
 refine wpAnyH_done (by kernel_rfl) ?_ _
 clear hHeld
 clear z_x_0 z_x_1 z_x_2 z_x_3 z_x_4 z_x_5 hltb_x
 have HX:=hid (BB' (w:=w8) ez0.out (by omega) (by omega))
 go_wp2_with fail
 refine (HX.out).mono ?_
 rintro e w9 ⟨v9,rfl,hv9,b9⟩
 obtain ⟨C11,j11,C12,j12,rfl,-,-⟩:=id hv9.opened
 replace hv9:=hid hv9
 replace b9:=hid b9
 clear HX
 have HX:=hid (CA et.out hv9.out pz.out hn.out)
 go_wp2_with fail
 refine (HX.out).mono ?_
 rintro e w10 ⟨v10,rfl,hv10,b10⟩
 obtain ⟨C13,j13,C14,j14,rfl,-,-⟩:=id hv10.opened
 replace hv10:=hid hv10
 replace b10:=hid b10
 clear HX
 have y5_10:=hid (bS (bS (bS (bS b6.out b7.out) b8.out) b9.out) b10.out)
 have y3_10:=hid (bS (bS (bS (bS (bS (bS b4.out b5.out) b6.out) b7.out) b8.out) b9.out) b10.out)
 have y4_10:=hid (bS (bS (bS (bS (bS b5.out b6.out) b7.out) b8.out) b9.out) b10.out)
 obtain ⟨ti,tz,tb,hi1,hi2,hi3,hi4,hi5,hi6⟩:=Fd'
 have hab:=Ai w10 (.cells #[.bool (decide (t.num<0)),.slice C13 (len t.num.natAbs) j13,.slice C14 (len t.den) j14] 39)
 have hLR:(w10.alloc (.cells #[.bool (decide (t.num<0)),.slice C13 (len t.num.natAbs) j13,.slice C14 (len t.den) j14] 39)).heap[w4.heap.size]?=some (.cells #[.bool (decide (c.num<0)),.slice C5 (len c.num.natAbs) j5,.slice C6 (len c.den) j6,.bool (decide (d.num<0)),.slice C7 (len d.num.natAbs) j7,.slice C8 (len d.den) j8] 39 (0,0)):=Ac' (Ac' L5.out y5_10.out) hab
 have hown:(w10.alloc (.cells #[.bool (decide (t.num<0)),.slice C13 (len t.num.natAbs) j13,.slice C14 (len t.den) j14] 39)).ownsRow 0 39 3 (.slice (some ⟨w4.heap.size,0,none⟩) 2 2) 2 [.bool (decide (c.num<0)),.slice C5 (len c.num.natAbs) j5,.slice C6 (len c.den) j6,.bool (decide (d.num<0)),.slice C7 (len d.num.natAbs) j7,.slice C8 (len d.den) j8]:=⟨rfl,Or.inr ⟨w4.heap.size,2,#[.bool (decide (c.num<0)),.slice C5 (len c.num.natAbs) j5,.slice C6 (len c.den) j6,.bool (decide (d.num<0)),.slice C7 (len d.num.natAbs) j7,.slice C8 (len d.den) j8],rfl,Nat.zero_le _,hLR,nL _,by decide,rfl,rfl⟩⟩
 have hnews:=World.news_of_block (hA_ w10 (.cells #[.bool (decide (t.num<0)),.slice C13 (len t.num.natAbs) j13,.slice C14 (len t.den) j14] 39))
 have hnew1:∀ u∈([.bool (decide (t.num<0)),.slice C13 (len t.num.natAbs) j13,.slice C14 (len t.den) j14]:List Value),u.oneCell'=true:=by intro u hu;simp only [List.mem_cons,List.not_mem_nil,or_false] at hu;rcases hu with rfl | rfl | rfl <;> rfl
 have ga:=hid (((hv3.out.keep y3_10.out)).keep hab)
 have gb:=hid (((hv4.out.keep y4_10.out)).keep hab)
 have gc:=hid ((hv10.out).keep hab)
 have hbv:=hid (bS (bS b5.out y5_10.out) hab)
 replace hLR:=hid hLR
 clear hab
 go_wp2_with (at_builtin;refine wpList_append_lies _ rfl _ _ _ rfl 0 39 ti tz 3 tb Tryz.underlying24 hi1 hi2 hi3 hi4 hi5 (by omega) _ 2 _ (by rfl) hown _ 1 1 [.bool (decide (t.num<0)),.slice C13 (len t.num.natAbs) j13,.slice C14 (len t.den) j14] (by rfl) rfl hnews hnew1 (by omega) (by decide) (by omega) (Nat.zero_le _) _ rfl ?_;intro g cap w11 hown' A9 hat hlt)
 clear hown hnews hnew1 hi1 hi2 hi3 hi4 hi5 hi6 hat hlt
 have hbj:=hid (Below.grown hbv.out A9 hbv.out.size (fun r hr=>by have:w4.heap.size=r:=Option.some.inj hr;omega))
 have qa:=Cs' hLR.out A9 ga.out
 have qb:=Cs' hLR.out A9 gb.out
 have qc:=Cs' hLR.out A9 gc.out
 obtain ⟨g',cap',cur,hv,-,hg,-,-,-,htk⟩:=hown'.2.resolve_left (fun h=>absurd h.2 (by omega))
 have hgg:g=g':=by injection hv with e1;injection e1 with e2;injection e2
 subst hgg
 have hrow:=hid (DW hg htk qa qb qc)
 clear hbv hg htk hv hown' A9 qa qb qc ga gb gc hLR
 have HX:=hid (BU' (c:=cap) el.out eh.out hrow.out (by simp) hsm.out)
 go_wp2_with fail
 refine (HX.out).mono ?_
 rintro e w12 ⟨v12,rfl,hv12,b12⟩
 obtain ⟨C15,j15,C16,j16,C17,j17,C18,j18,rfl,-,-,-,-⟩:=id hv12.opened
 replace hv12:=hid hv12
 replace b12:=hid b12
 clear HX
 have DR:=(Ac' g2.out (bS (bS (bS (bS b2.out b3.out) b4.out) hbj.out) b12.out))
 have q0:w12.cell? ⟨w.heap.size+1,0,none⟩=some (.bool false):=cR _ _ _ _ _ _ DR
 have F0:w12.frozen? ⟨w.heap.size+1,0,none⟩=false:=fR w12 (w.heap.size+1) 0 _ _ DR
 have q1:w12.cell? ⟨w.heap.size+1,1,none⟩=some (.slice none 0 0):=cR _ _ _ _ _ _ DR
 have F1:w12.frozen? ⟨w.heap.size+1,1,none⟩=false:=fR w12 (w.heap.size+1) 1 _ _ DR
 have q2:w12.cell? ⟨w.heap.size+1,2,none⟩=some (.slice none 0 0):=cR _ _ _ _ _ _ DR
 have F2:w12.frozen? ⟨w.heap.size+1,2,none⟩=false:=fR w12 (w.heap.size+1) 2 _ _ DR
 have q3:w12.cell? ⟨w.heap.size+1,3,none⟩=some (.bool false):=cR _ _ _ _ _ _ DR
 have F3:w12.frozen? ⟨w.heap.size+1,3,none⟩=false:=fR w12 (w.heap.size+1) 3 _ _ DR
 have q4:w12.cell? ⟨w.heap.size+1,4,none⟩=some (.slice none 0 0):=cR _ _ _ _ _ _ DR
 have F4:w12.frozen? ⟨w.heap.size+1,4,none⟩=false:=fR w12 (w.heap.size+1) 4 _ _ DR
 have q5:w12.cell? ⟨w.heap.size+1,5,none⟩=some (.slice none 0 0):=cR _ _ _ _ _ _ DR
 have F5:w12.frozen? ⟨w.heap.size+1,5,none⟩=false:=fR w12 (w.heap.size+1) 5 _ _ DR
 have FB:=(bS (bS (bS (bS (bS b1.out b2.out) b3.out) b4.out) hbj.out) b12.out)
 have FV:=hv12.out
 obtain ⟨ue,hw⟩:=eX (((((((w12.setCell ⟨w.heap.size+1,0,none⟩ (.bool (decide (l.num<0)))).setCell ⟨w.heap.size+1,1,none⟩ (.slice C15 (len l.num.natAbs) j15)).setCell ⟨w.heap.size+1,2,none⟩ (.slice C16 (len l.den) j16)).setCell ⟨w.heap.size+1,3,none⟩ (.bool (decide (h.num<0)))).setCell ⟨w.heap.size+1,4,none⟩ (.slice C17 (len h.num.natAbs) j17)).setCell ⟨w.heap.size+1,5,none⟩ (.slice C18 (len h.den) j18)))
 obtain ⟨E_ue,-,LV,BL⟩:=AH DR hw
 have FE:=hid (LV.rbox FV)
 replace FB:=hid (BL _ _ (by omega) FB)
 replace E_ue:=hid E_ue
 replace hw:=hid hw
 clear DR FV LV BL
 go_wp2_with fail
 rw [←hw.out]
 obtain ⟨r0,r1,r2,r3,r4,r5⟩:=Ad' E_ue.out
 refine bP (v:=.agg #[.bool (decide (l.num<0)),.slice C15 (len l.num.natAbs) j15,.slice C16 (len l.den) j16,.bool (decide (h.num<0)),.slice C17 (len h.num.natAbs) j17,.slice C18 (len h.den) j18]) ?_ rfl ⟨_,rfl,FE.out,FB.out⟩
 simp [results,Tryz.results33,go_sem,r0,r1,r2,r3,r4,r5]
end Go.Proofs.YtlcimajjnfbidaaGreatDoor.Rf
