/-
  Contracts of the functions that the law calls, for every input (Ed GrF Ef Val).
-/
import Derived.Test.YtlcimajjnfbidaaGreatDoorZ00
import Derived.Test.YtlcimajjnfbidaaGreatDoorZ43
import Derived.Test.YtlcimajjnfbidaaGreatDoorZ39
import Derived.Test.YtlcimajjnfbidaaGreatDoorZ42
import Derived.Test.YtlcimajjnfbidaaGreatDoorZ41
import Derived.Test.YtlcimajjnfbidaaGreatDoorZ13
import Derived.Test.YtlcimajjnfbidaaGreatDoorZ24
set_option linter.all false
set_option maxRecDepth 100000
set_option maxHeartbeats 40000000
namespace Go.Proofs.YtlcimajjnfbidaaGreatDoor.Rf
open Lib (hid)
open Go.RowKit
open Rx
open Vx (Aa' Ao Ao')
open List renaming getElem?_toArray → lg, getElem?_cons_zero → lz, getElem?_cons_succ → ls, setIfInBounds_toArray → lt, set_cons_zero → ly, set_cons_succ → lu
theorem Fe {F:Nat→Array Bool→Act→World→Prop} {n:Nat} {L:Array Bool} {A:Act} {w:World} (h:∀ A0,A=A0→F n L A0 w):F n L A w:=h _ rfl
theorem EB {w:World} {vx vy:Value} {a b c d M m:Rat} (hM:(if c≤a then a else c)=M) (hm:(if b≤d then b else d)=m) (h:m<M) (hx:Aq w vx a b) (hy:Aq w vy c d) (sa:Aa' a≤16777216) (sb:Aa' b≤16777216) (sc:Aa' c≤16777216) (sd:Aa' d≤16777216) :
   Calls Tryz.prog 30 #[vx,vy] w (CH' w 0 0 false):=by
 obtain ⟨k,ek⟩:=eY (cmpQ M m:Int)
 have sM:Aa' M≤16777216:=by rw [←hM];split <;> assumption
 have sm:Aa' m≤16777216:=by rw [←hm];split <;> assumption
 have tM:=hid (show Aa' M≤268435456 by omega)
 have tm:=hid (show Aa' m≤268435456 by omega)
 have d0:0<k:=by
   have:¬ k≤0:=by rw [←ek];exact fun q=>absurd (Bg'.1 q) (Rat.not_le.2 h)
   omega
 have d1:decide (0<k)=true:=dT_ d0
 clear sM sm h d0
 replace sa:=hid sa
 replace sb:=hid sb
 replace sc:=hid sc
 replace sd:=hid sd
 replace hM:=hid hM
 replace hm:=hid hm
 replace ek:=hid ek
 obtain ⟨C1,j1,C2,j2,C3,j3,C4,j4,rfl,hxl,hxh⟩:=id hx.opened
 replace hx:=hid hx
 replace hxl:=hid hxl
 replace hxh:=hid hxh
 obtain ⟨C5,j5,C6,j6,C7,j7,C8,j8,rfl,hyl,hyh⟩:=id hy.opened
 replace hy:=hid hy
 replace hyl:=hid hyl
 replace hyh:=hid hyh
 obtain ⟨w1,hw1⟩:=eX ((((w.alloc (.cells #[.bool (decide (a.num<0)),.slice C1 (len a.num.natAbs) j1,.slice C2 (len a.den) j2,.bool (decide (b.num<0)),.slice C3 (len b.num.natAbs) j3,.slice C4 (len b.den) j4] 50)).alloc (.cells #[.bool (decide (c.num<0)),.slice C5 (len c.num.natAbs) j5,.slice C6 (len c.den) j6,.bool (decide (d.num<0)),.slice C7 (len d.num.natAbs) j7,.slice C8 (len d.den) j8] 50)).alloc (.cells #[.bool false,.slice none 0 0,.slice none 0 0,.bool false,.slice none 0 0,.slice none 0 0] 50)))
 obtain ⟨b1,g1,g2,g3⟩:=Au' hw1
 replace g1:=hid g1
 replace g2:=hid g2
 replace g3:=hid g3
 replace b1:=hid b1
 go_enter Tryz.func30,Tryz.ntmps30
 go_upto_region 1 with fail
 rw [←hw1]
 clear hw1
 replace d1:=hid d1
 go_wp2_with fail
 have HSZa:Hid ((w.heap.size+2)≤w1.heap.size):=hid (by have:=AO (Ac' g3.out (Below.refl _ w1));omega)
 obtain ⟨z_x_0,z_x_1,z_x_2,z_x_3,z_x_4,z_x_5⟩:=Ad' g1.out
 have hlta_x:w.heap.size<(w.heap.size+2):=by omega
 obtain ⟨z_y_0,z_y_1,z_y_2,z_y_3,z_y_4,z_y_5⟩:=Ad' g2.out
 have hlta_y:w.heap.size+1<(w.heap.size+2):=by omega
 have H0:=Ae'.start w1 (w.heap.size+2)
 have H0':=H0
 unfold Ae' at H0'
 refine wp_region_held_drew (S:=(fun w'=>(∀ b o,b<(w.heap.size+2)→w'.cell? ⟨b,o,none⟩=w1.cell? ⟨b,o,none⟩)∧Below ((w.heap.size+2)) w1 w'∧Ag' w1 w')) (by kernel_rfl) ?_ (fun hHeld=>?_)
 · (try dsimp only)
   exact H0'
 obtain ⟨w2,hw2⟩:=eX w1.drew
 have b2:Hid (Below w1.heap.size w1 w2):=by rw [hw2];exact ⟨rfl,rfl,rfl,nL _,fun _ _=>rfl⟩
 rw [←hw2] at hHeld H0 ⊢
 clear hw2 H0'
 refine tk (i:=0) (h:=?_)
 try simp only [Act.put,lt,ly,lu]
 refine tk (i:=1) (h:=?_)
 try simp only [Act.put,lt,ly,lu]
 refine tk (i:=2) (h:=?_)
 try simp only [Act.put,lt,ly,lu]
 refine tk (i:=3) (h:=?_)
 try simp only [Act.put,lt,ly,lu]
 refine tk (i:=5) (h:=?_)
 try simp only [Act.put,lt,ly,lu]
 refine tk (i:=6) (h:=?_)
 try simp only [Act.put,lt,ly,lu]
 refine tk (i:=7) (h:=?_)
 try simp only [Act.put,lt,ly,lu]
 refine tk (i:=8) (h:=?_)
 try simp only [Act.put,lt,ly,lu]
 generalize hF:wpAnyH _ _ _ _ _=F
 replace hF:=hid hF
 refine Fe ?_
 intro A0 hA
 replace hA:=hid hA
 have H0h:=hid H0
 have BB0:=hid (Below.refl w2.heap.size w2)
 clear H0 hHeld
 have st21:∀ (L:Array Bool) (u:World) (C91:Option Addr) (j91:Nat) (C92:Option Addr) (j92:Nat) (C93:Option Addr) (j93:Nat) (C94:Option Addr) (j94:Nat) (n:Nat),L=#[true,true,true,true,true,true,true,true,true,true,true,true,false]→Hid (Ae' w1 (w.heap.size+2) w1 u)→Hid (Below w2.heap.size w2 u)→Hid (Ah' u (.agg #[.bool (decide (M.num<0)),.slice C91 (len M.num.natAbs) j91,.slice C92 (len M.den) j92]) M)→Hid (Ah' u (.agg #[.bool (decide (m.num<0)),.slice C93 (len m.num.natAbs) j93,.slice C94 (len m.den) j94]) m)→Hid (u.heap[n]?=some (.cells #[.bool false,.slice none 0 0,.slice none 0 0,.bool false,.slice none 0 0,.slice none 0 0] 50 (0,0)))→Hid (w2.heap.size≤n)→F 1 L (Act.put (Act.put (Act.put (Act.put A0 (some 6) (.pointer (some ⟨n,0,none⟩))) (some 11) (.agg #[.bool (decide (M.num<0)),.slice C91 (len M.num.natAbs) j91,.slice C92 (len M.den) j92])) (some 16) (.agg #[.bool (decide (m.num<0)),.slice C93 (len m.num.natAbs) j93,.slice C94 (len m.den) j94])) (some 17) (.agg #[.bool (decide (M.num<0)),.slice C91 (len M.num.natAbs) j91,.slice C92 (len M.den) j92,.bool (decide (m.num<0)),.slice C93 (len m.num.natAbs) j93,.slice C94 (len m.den) j94])) u:=by
  intro L u C91 j91 C92 j92 C93 j93 C94 j94 n hLL HK BB IM Im Z g
  subst hLL
  rw [←hF.out,←hA.out]
  try simp only [Act.put,lt,ly,lu]
  clear H0h BB0 z_x_0 z_x_1 z_x_2 z_x_3 z_x_4 z_x_5 z_y_0 z_y_1 z_y_2 z_y_3 z_y_4 z_y_5 hlta_x hlta_y
  have hNn:(w.heap.size+2)≤n:=by have:=HSZa.out;have:=b2.out.size;have:=g.out;omega
  refine rd (i:=12) (h:=fun K hK=>?_)
  have q0:u.cell? ⟨n,0,none⟩=some (.bool false):=cR _ _ _ _ _ _ Z.out
  have F0:u.frozen? ⟨n,0,none⟩=false:=fR u n 0 _ _ Z.out
  have q1:u.cell? ⟨n,1,none⟩=some (.slice none 0 0):=cR _ _ _ _ _ _ Z.out
  have F1:u.frozen? ⟨n,1,none⟩=false:=fR u n 1 _ _ Z.out
  have q2:u.cell? ⟨n,2,none⟩=some (.slice none 0 0):=cR _ _ _ _ _ _ Z.out
  have F2:u.frozen? ⟨n,2,none⟩=false:=fR u n 2 _ _ Z.out
  have q3:u.cell? ⟨n,3,none⟩=some (.bool false):=cR _ _ _ _ _ _ Z.out
  have F3:u.frozen? ⟨n,3,none⟩=false:=fR u n 3 _ _ Z.out
  have q4:u.cell? ⟨n,4,none⟩=some (.slice none 0 0):=cR _ _ _ _ _ _ Z.out
  have F4:u.frozen? ⟨n,4,none⟩=false:=fR u n 4 _ _ Z.out
  have q5:u.cell? ⟨n,5,none⟩=some (.slice none 0 0):=cR _ _ _ _ _ _ Z.out
  have F5:u.frozen? ⟨n,5,none⟩=false:=fR u n 5 _ _ Z.out
  go_simp
  clear q0 F0 q1 F1 q2 F2 q3 F3 q4 F4 q5 F5
  obtain ⟨w3,hw⟩:=eX (((((((u.setCell ⟨n,0,none⟩ (.bool (decide (M.num<0)))).setCell ⟨n,1,none⟩ (.slice C91 (len M.num.natAbs) j91)).setCell ⟨n,2,none⟩ (.slice C92 (len M.den) j92)).setCell ⟨n,3,none⟩ (.bool (decide (m.num<0)))).setCell ⟨n,4,none⟩ (.slice C93 (len m.num.natAbs) j93)).setCell ⟨n,5,none⟩ (.slice C94 (len m.den) j94)))
  obtain ⟨E_m,OT,LV,BL⟩:=AH Z.out hw
  rw [←hw]
  clear hw
  replace E_m:=hid E_m
  have b3:=hid (BL _ _ g.out BB.out)
  have NM:=hid (LV.rat IM.out)
  have Nm:=hid (LV.rat Im.out)
  have NB:=hid (Ah'.pair NM.out Nm.out)
  refine hK.out _ _ ?_ (fun hHeld=>?_)
  · (try dsimp only)
    exact ⟨Aj (BL ((w.heap.size+2)) _ hNn HK.out.2.1),BL ((w.heap.size+2)) _ hNn HK.out.2.1,Bn' HK.out.2.2 LV⟩
  clear hK K OT LV BL IM Im Z HK BB
  try simp only [Act.put,lt,ly,lu]
  refine wpAnyH_done (by kernel_rfl) ?_ _
  clear hHeld hF hA
  obtain ⟨z_m_0,z_m_1,z_m_2,z_m_3,z_m_4,z_m_5⟩:=Ad' E_m.out
  have D1:=d1.out
  have HX:=hid (Bq' ek.out NM.out Nm.out tM.out tm.out)
  go_wp2_with fail
  refine (HX.out).mono ?_
  rintro e w4 ⟨rfl,b4⟩
  replace b4:=hid b4
  clear HX
  clear z_m_0 z_m_1 z_m_2 z_m_3 z_m_4 z_m_5
  obtain ⟨z0,ez0⟩:=eY (((0:Int):Rat):Rat)
  have e00:=hid (show (0:Rat)=z0 by rw [←ez0];rfl)
  replace ez0:=hid ez0
  have HX:=hid (BB' (w:=w4) ez0.out (by omega) (by omega))
  go_wp2_with fail
  refine (HX.out).mono ?_
  rintro e w5 ⟨v5,rfl,hv5,b5⟩
  obtain ⟨C9,j9,C10,j10,rfl,-,-⟩:=id hv5.opened
  replace hv5:=hid hv5
  replace b5:=hid b5
  clear HX
  have HX:=hid (DU' hv5.out)
  go_wp2_with fail
  refine (HX.out).mono ?_
  rintro e w6 ⟨v6,rfl,hv6,b6⟩
  obtain ⟨C11,j11,C12,j12,C13,j13,C14,j14,rfl,-,-,-,-⟩:=id hv6.opened
  replace hv6:=hid hv6
  replace b6:=hid b6
  clear HX
  have y1_6:=hid (bS (bS (bS (bS b2.out b3.out) b4.out) b5.out) b6.out)
  have DR:=(Ac' g3.out y1_6.out)
  have q0:w6.cell? ⟨w.heap.size+2,0,none⟩=some (.bool false):=cR _ _ _ _ _ _ DR
  have F0:w6.frozen? ⟨w.heap.size+2,0,none⟩=false:=fR w6 (w.heap.size+2) 0 _ _ DR
  have q1:w6.cell? ⟨w.heap.size+2,1,none⟩=some (.slice none 0 0):=cR _ _ _ _ _ _ DR
  have F1:w6.frozen? ⟨w.heap.size+2,1,none⟩=false:=fR w6 (w.heap.size+2) 1 _ _ DR
  have q2:w6.cell? ⟨w.heap.size+2,2,none⟩=some (.slice none 0 0):=cR _ _ _ _ _ _ DR
  have F2:w6.frozen? ⟨w.heap.size+2,2,none⟩=false:=fR w6 (w.heap.size+2) 2 _ _ DR
  have q3:w6.cell? ⟨w.heap.size+2,3,none⟩=some (.bool false):=cR _ _ _ _ _ _ DR
  have F3:w6.frozen? ⟨w.heap.size+2,3,none⟩=false:=fR w6 (w.heap.size+2) 3 _ _ DR
  have q4:w6.cell? ⟨w.heap.size+2,4,none⟩=some (.slice none 0 0):=cR _ _ _ _ _ _ DR
  have F4:w6.frozen? ⟨w.heap.size+2,4,none⟩=false:=fR w6 (w.heap.size+2) 4 _ _ DR
  have q5:w6.cell? ⟨w.heap.size+2,5,none⟩=some (.slice none 0 0):=cR _ _ _ _ _ _ DR
  have F5:w6.frozen? ⟨w.heap.size+2,5,none⟩=false:=fR w6 (w.heap.size+2) 5 _ _ DR
  have y0_6:=hid (bS (bS (bS (bS (bS b1.out b2.out) b3.out) b4.out) b5.out) b6.out)
  have FB:=y0_6.out
  have FV:=hv6.out
  obtain ⟨ue,hw⟩:=eX (((((((w6.setCell ⟨w.heap.size+2,0,none⟩ (.bool (decide (z0.num<0)))).setCell ⟨w.heap.size+2,1,none⟩ (.slice C11 (len z0.num.natAbs) j11)).setCell ⟨w.heap.size+2,2,none⟩ (.slice C12 (len z0.den) j12)).setCell ⟨w.heap.size+2,3,none⟩ (.bool (decide (z0.num<0)))).setCell ⟨w.heap.size+2,4,none⟩ (.slice C13 (len z0.num.natAbs) j13)).setCell ⟨w.heap.size+2,5,none⟩ (.slice C14 (len z0.den) j14)))
  obtain ⟨E_ue,-,LV,BL⟩:=AH DR hw
  have FE:=hid (LV.rbox FV)
  replace FB:=hid (BL _ _ (by omega) FB)
  replace E_ue:=hid E_ue
  replace hw:=hid hw
  clear DR FV LV BL
  go_wp2_with fail
  rw [←hw.out]
  obtain ⟨r0,r1,r2,r3,r4,r5⟩:=Ad' E_ue.out
  refine bP (v:=.tuple #[.agg #[.bool (decide (z0.num<0)),.slice C11 (len z0.num.natAbs) j11,.slice C12 (len z0.den) j12,.bool (decide (z0.num<0)),.slice C13 (len z0.num.natAbs) j13,.slice C14 (len z0.den) j14],.bool false]) ?_ rfl ⟨_,rfl,(by rw [e00.out];exact FE.out),FB.out⟩
  simp [results,Tryz.results30,go_sem,r0,r1,r2,r3,r4,r5]
 try simp only [←hA.out,Act.put,lt,ly,lu] at st21
 replace st21:=hid st21
 have st20:∀ (L:Array Bool) (u:World) (C91:Option Addr) (j91:Nat) (C92:Option Addr) (j92:Nat) (C93:Option Addr) (j93:Nat) (C94:Option Addr) (j94:Nat),L=#[true,true,true,true,true,true,true,true,true,true,true,false,false]→Hid (Ae' w1 (w.heap.size+2) w1 u)→Hid (Below w2.heap.size w2 u)→Hid (Ah' u (.agg #[.bool (decide (M.num<0)),.slice C91 (len M.num.natAbs) j91,.slice C92 (len M.den) j92]) M)→Hid (Ah' u (.agg #[.bool (decide (m.num<0)),.slice C93 (len m.num.natAbs) j93,.slice C94 (len m.den) j94]) m)→F 2 L (Act.put (Act.put (Act.put A0 (some 11) (.agg #[.bool (decide (M.num<0)),.slice C91 (len M.num.natAbs) j91,.slice C92 (len M.den) j92])) (some 16) (.agg #[.bool (decide (m.num<0)),.slice C93 (len m.num.natAbs) j93,.slice C94 (len m.den) j94])) (some 17) (.agg #[.bool (decide (M.num<0)),.slice C91 (len M.num.natAbs) j91,.slice C92 (len M.den) j92,.bool (decide (m.num<0)),.slice C93 (len m.num.natAbs) j93,.slice C94 (len m.den) j94])) u:=by
  intro L u C91 j91 C92 j92 C93 j93 C94 j94 hLL HK BB IM Im
  subst hLL
  rw [←hF.out,←hA.out]
  try simp only [Act.put,lt,ly,lu]
  refine wpAnyH_ready (rs:=[11]) (by kernel_rfl) (by simp) (AllReadyH.cons (o:=?o11q10) ?e11q10 ?k11q10 AllReadyH.nil)
  case e11q10=>simp only [lg,lz,ls] <;> rfl
  case k11q10 =>
   intro K hK
   go_simp
   have hb2:Below u.heap.size u _:=Ai u (.cells #[.bool false,.slice none 0 0,.slice none 0 0,.bool false,.slice none 0 0,.slice none 0 0] 50)
   have Z2:=hA_ u (.cells #[.bool false,.slice none 0 0,.slice none 0 0,.bool false,.slice none 0 0,.slice none 0 0] 50)
   have hsz:w2.heap.size≤u.heap.size:=BB.out.size
   have HK2:=Ak' HK.out HSZa hb2
   have BB2:=hid (bS BB.out hb2)
   have HK3:=HK2;unfold Ae' at HK3;refine hK.out _ _ ?_ (fun hHeld=>?_)
   · (try dsimp only);with_reducible exact HK3
   clear hK K HK3;try simp only [Act.put,lt,ly,lu]
   rw [hF.out]
   exact st21.out _ _ C91 j91 C92 j92 C93 j93 C94 j94 u.heap.size (by kernel_rfl) (hid HK2) BB2 (hid (IM.out.keep hb2)) (hid (Im.out.keep hb2)) (hid Z2) (hid hsz)
 try simp only [←hA.out,Act.put,lt,ly,lu] at st20
 replace st20:=hid st20
 have y0_2:=hid (bS b1.out b2.out)
 have st11:∀ (L:Array Bool) (u:World) (v11:Value) (n:Nat),L=#[true,true,true,true,true,true,true,true,true,false,false,true,false]→Hid (Ae' w1 (w.heap.size+2) w1 u)→Hid (Below w2.heap.size w2 u)→Hid (Ah' u v11 M)→Hid (u.heap[n]?=some (.cells #[.bool false,.slice none 0 0,.slice none 0 0,.bool false,.slice none 0 0,.slice none 0 0] 50 (0,0)))→Hid (w2.heap.size≤n)→F 3 L (Act.put (Act.put A0 (some 6) (.pointer (some ⟨n,0,none⟩))) (some 11) v11) u:=by
  intro L u v11 n hLL HK BB IM Z g
  subst hLL
  rw [←hF.out,←hA.out]
  try simp only [Act.put,lt,ly,lu]
  refine wpAnyH_ready (rs:=[9]) (by kernel_rfl) (by simp) (AllReadyH.cons (o:=?o9q11) ?e9q11 ?k9q11 AllReadyH.nil)
  case e9q11=>simp only [lg,lz,ls] <;> rfl
  case k9q11 =>
   intro K hK
   go_simp
   go_at_call 72
   refine (Ca hm.out (hxh.out.keep (bS y0_2.out BB.out)) (hyh.out.keep (bS y0_2.out BB.out)) sb.out sd.out).mono ?_
   rintro e u2 ⟨v2,rfl,hv2,hb2⟩
   obtain ⟨C91,j91,C92,j92,rfl,-,-⟩:=id IM.out.opened
   obtain ⟨C93,j93,C94,j94,rfl,-,-⟩:=id hv2.opened
   have HK2:=Ak' HK.out HSZa hb2
   have BB2:=hid (bS BB.out hb2)
   have HK3:=HK2;unfold Ae' at HK3;refine hK.out _ _ ?_ (fun hHeld=>?_)
   · (try dsimp only);with_reducible exact HK3
   clear hK K HK3;try simp only [Act.put,lt,ly,lu]
   refine tk (i:=10) (h:=?_)
   try simp only [Act.put,lt,ly,lu]
   rw [hF.out]
   exact st21.out _ _ C91 j91 C92 j92 C93 j93 C94 j94 n (by kernel_rfl) (hid HK2) BB2 (hid (IM.out.keep hb2)) (hid hv2) (hid (Ac' Z.out hb2)) g
 try simp only [←hA.out,Act.put,lt,ly,lu] at st11
 replace st11:=hid st11
 have st10:∀ (L:Array Bool) (u:World) (v11:Value),L=#[true,true,true,true,true,true,true,true,true,false,false,false,false]→Hid (Ae' w1 (w.heap.size+2) w1 u)→Hid (Below w2.heap.size w2 u)→Hid (Ah' u v11 M)→F 4 L (Act.put A0 (some 11) v11) u:=by
  intro L u v11 hLL HK BB IM
  subst hLL
  rw [←hF.out,←hA.out]
  try simp only [Act.put,lt,ly,lu]
  refine wpAnyH_ready (rs:=[9,11]) (by kernel_rfl) (by simp) (AllReadyH.cons (o:=?o9q12) ?e9q12 ?k9q12 (AllReadyH.cons (o:=?o11q12) ?e11q12 ?k11q12 AllReadyH.nil))
  case e9q12=>simp only [lg,lz,ls] <;> rfl
  case e11q12=>simp only [lg,lz,ls] <;> rfl
  case k9q12 =>
   intro K hK
   go_simp
   go_at_call 72
   refine (Ca hm.out (hxh.out.keep (bS y0_2.out BB.out)) (hyh.out.keep (bS y0_2.out BB.out)) sb.out sd.out).mono ?_
   rintro e u2 ⟨v2,rfl,hv2,hb2⟩
   obtain ⟨C91,j91,C92,j92,rfl,-,-⟩:=id IM.out.opened
   obtain ⟨C93,j93,C94,j94,rfl,-,-⟩:=id hv2.opened
   have HK2:=Ak' HK.out HSZa hb2
   have BB2:=hid (bS BB.out hb2)
   have HK3:=HK2;unfold Ae' at HK3;refine hK.out _ _ ?_ (fun hHeld=>?_)
   · (try dsimp only);with_reducible exact HK3
   clear hK K HK3;try simp only [Act.put,lt,ly,lu]
   refine tk (i:=10) (h:=?_)
   try simp only [Act.put,lt,ly,lu]
   rw [hF.out]
   exact st20.out _ _ C91 j91 C92 j92 C93 j93 C94 j94 (by kernel_rfl) (hid HK2) BB2 (hid (IM.out.keep hb2)) (hid hv2)
  case k11q12 =>
   intro K hK
   go_simp
   have hb2:Below u.heap.size u _:=Ai u (.cells #[.bool false,.slice none 0 0,.slice none 0 0,.bool false,.slice none 0 0,.slice none 0 0] 50)
   have Z2:=hA_ u (.cells #[.bool false,.slice none 0 0,.slice none 0 0,.bool false,.slice none 0 0,.slice none 0 0] 50)
   have hsz:w2.heap.size≤u.heap.size:=BB.out.size
   have HK2:=Ak' HK.out HSZa hb2
   have BB2:=hid (bS BB.out hb2)
   have HK3:=HK2;unfold Ae' at HK3;refine hK.out _ _ ?_ (fun hHeld=>?_)
   · (try dsimp only);with_reducible exact HK3
   clear hK K HK3;try simp only [Act.put,lt,ly,lu]
   rw [hF.out]
   exact st11.out _ _ v11 u.heap.size (by kernel_rfl) (hid HK2) BB2 (hid (IM.out.keep hb2)) (hid Z2) (hid hsz)
 try simp only [←hA.out,Act.put,lt,ly,lu] at st10
 replace st10:=hid st10
 have st01:∀ (L:Array Bool) (u:World) (n:Nat),L=#[true,true,true,true,false,true,true,true,true,false,false,true,false]→Hid (Ae' w1 (w.heap.size+2) w1 u)→Hid (Below w2.heap.size w2 u)→Hid (u.heap[n]?=some (.cells #[.bool false,.slice none 0 0,.slice none 0 0,.bool false,.slice none 0 0,.slice none 0 0] 50 (0,0)))→Hid (w2.heap.size≤n)→F 4 L (Act.put A0 (some 6) (.pointer (some ⟨n,0,none⟩))) u:=by
  intro L u n hLL HK BB Z g
  subst hLL
  rw [←hF.out,←hA.out]
  try simp only [Act.put,lt,ly,lu]
  refine wpAnyH_ready (rs:=[4]) (by kernel_rfl) (by simp) (AllReadyH.cons (o:=?o4q13) ?e4q13 ?k4q13 AllReadyH.nil)
  case e4q13=>simp only [lg,lz,ls] <;> rfl
  case k4q13 =>
   intro K hK
   go_simp
   go_at_call 73
   refine (Ca' hM.out (hxl.out.keep (bS y0_2.out BB.out)) (hyl.out.keep (bS y0_2.out BB.out)) sa.out sc.out).mono ?_
   rintro e u2 ⟨v2,rfl,hv2,hb2⟩
   have HK2:=Ak' HK.out HSZa hb2
   have BB2:=hid (bS BB.out hb2)
   have HK3:=HK2;unfold Ae' at HK3;refine hK.out _ _ ?_ (fun hHeld=>?_)
   · (try dsimp only);with_reducible exact HK3
   clear hK K HK3;try simp only [Act.put,lt,ly,lu]
   rw [hF.out]
   exact st11.out _ _ v2 n (by kernel_rfl) (hid HK2) BB2 (hid hv2) (hid (Ac' Z.out hb2)) g
 try simp only [←hA.out,Act.put,lt,ly,lu] at st01
 replace st01:=hid st01
 have st00:∀ (L:Array Bool) (u:World),L=#[true,true,true,true,false,true,true,true,true,false,false,false,false]→Hid (Ae' w1 (w.heap.size+2) w1 u)→Hid (Below w2.heap.size w2 u)→F 5 L A0 u:=by
  intro L u  hLL HK BB
  subst hLL
  rw [←hF.out,←hA.out]
  try simp only [Act.put,lt,ly,lu]
  refine wpAnyH_ready (rs:=[4,11]) (by kernel_rfl) (by simp) (AllReadyH.cons (o:=?o4q14) ?e4q14 ?k4q14 (AllReadyH.cons (o:=?o11q14) ?e11q14 ?k11q14 AllReadyH.nil))
  case e4q14=>simp only [lg,lz,ls] <;> rfl
  case e11q14=>simp only [lg,lz,ls] <;> rfl
  case k4q14 =>
   intro K hK
   go_simp
   go_at_call 73
   refine (Ca' hM.out (hxl.out.keep (bS y0_2.out BB.out)) (hyl.out.keep (bS y0_2.out BB.out)) sa.out sc.out).mono ?_
   rintro e u2 ⟨v2,rfl,hv2,hb2⟩
   have HK2:=Ak' HK.out HSZa hb2
   have BB2:=hid (bS BB.out hb2)
   have HK3:=HK2;unfold Ae' at HK3;refine hK.out _ _ ?_ (fun hHeld=>?_)
   · (try dsimp only);with_reducible exact HK3
   clear hK K HK3;try simp only [Act.put,lt,ly,lu]
   rw [hF.out]
   exact st10.out _ _ v2 (by kernel_rfl) (hid HK2) BB2 (hid hv2)
  case k11q14 =>
   intro K hK
   go_simp
   have hb2:Below u.heap.size u _:=Ai u (.cells #[.bool false,.slice none 0 0,.slice none 0 0,.bool false,.slice none 0 0,.slice none 0 0] 50)
   have Z2:=hA_ u (.cells #[.bool false,.slice none 0 0,.slice none 0 0,.bool false,.slice none 0 0,.slice none 0 0] 50)
   have hsz:w2.heap.size≤u.heap.size:=BB.out.size
   have HK2:=Ak' HK.out HSZa hb2
   have BB2:=hid (bS BB.out hb2)
   have HK3:=HK2;unfold Ae' at HK3;refine hK.out _ _ ?_ (fun hHeld=>?_)
   · (try dsimp only);with_reducible exact HK3
   clear hK K HK3;try simp only [Act.put,lt,ly,lu]
   rw [hF.out]
   exact st01.out _ _ u.heap.size (by kernel_rfl) (hid HK2) BB2 (hid Z2) (hid hsz)
 try simp only [←hA.out,Act.put,lt,ly,lu] at st00
 replace st00:=hid st00
 have HA:=hA.out
 subst HA
 exact st00.out _ _ (by kernel_rfl) H0h BB0
theorem EB' {w:World} {vx vy:Value} {a b c d M m:Rat} (hM:(if c≤a then a else c)=M) (hm:(if b≤d then b else d)=m) (h:¬ m<M) (hx:Aq w vx a b) (hy:Aq w vy c d) (sa:Aa' a≤16777216) (sb:Aa' b≤16777216) (sc:Aa' c≤16777216) (sd:Aa' d≤16777216) :
   Calls Tryz.prog 30 #[vx,vy] w (CH' w M m true):=by
 obtain ⟨k,ek⟩:=eY (cmpQ M m:Int)
 have sM:Aa' M≤16777216:=by rw [←hM];split <;> assumption
 have sm:Aa' m≤16777216:=by rw [←hm];split <;> assumption
 have tM:=hid (show Aa' M≤268435456 by omega)
 have tm:=hid (show Aa' m≤268435456 by omega)
 have d0:k≤0:=by rw [←ek];exact Bg'.2 (Rat.not_lt.1 h)
 have d1:decide (0<k)=false:=dF_ (by omega)
 clear sM sm h d0
 replace sa:=hid sa
 replace sb:=hid sb
 replace sc:=hid sc
 replace sd:=hid sd
 replace hM:=hid hM
 replace hm:=hid hm
 replace ek:=hid ek
 obtain ⟨C1,j1,C2,j2,C3,j3,C4,j4,rfl,hxl,hxh⟩:=id hx.opened
 replace hx:=hid hx
 replace hxl:=hid hxl
 replace hxh:=hid hxh
 obtain ⟨C5,j5,C6,j6,C7,j7,C8,j8,rfl,hyl,hyh⟩:=id hy.opened
 replace hy:=hid hy
 replace hyl:=hid hyl
 replace hyh:=hid hyh
 obtain ⟨w1,hw1⟩:=eX ((((w.alloc (.cells #[.bool (decide (a.num<0)),.slice C1 (len a.num.natAbs) j1,.slice C2 (len a.den) j2,.bool (decide (b.num<0)),.slice C3 (len b.num.natAbs) j3,.slice C4 (len b.den) j4] 50)).alloc (.cells #[.bool (decide (c.num<0)),.slice C5 (len c.num.natAbs) j5,.slice C6 (len c.den) j6,.bool (decide (d.num<0)),.slice C7 (len d.num.natAbs) j7,.slice C8 (len d.den) j8] 50)).alloc (.cells #[.bool false,.slice none 0 0,.slice none 0 0,.bool false,.slice none 0 0,.slice none 0 0] 50)))
 obtain ⟨b1,g1,g2,g3⟩:=Au' hw1
 replace g1:=hid g1
 replace g2:=hid g2
 replace g3:=hid g3
 replace b1:=hid b1
 go_enter Tryz.func30,Tryz.ntmps30
 go_upto_region 1 with fail
 rw [←hw1]
 clear hw1
 replace d1:=hid d1
 go_wp2_with fail
 have HSZa:Hid ((w.heap.size+2)≤w1.heap.size):=hid (by have:=AO (Ac' g3.out (Below.refl _ w1));omega)
 obtain ⟨z_x_0,z_x_1,z_x_2,z_x_3,z_x_4,z_x_5⟩:=Ad' g1.out
 have hlta_x:w.heap.size<(w.heap.size+2):=by omega
 obtain ⟨z_y_0,z_y_1,z_y_2,z_y_3,z_y_4,z_y_5⟩:=Ad' g2.out
 have hlta_y:w.heap.size+1<(w.heap.size+2):=by omega
 have H0:=Ae'.start w1 (w.heap.size+2)
 have H0':=H0
 unfold Ae' at H0'
 refine wp_region_held_drew (S:=(fun w'=>(∀ b o,b<(w.heap.size+2)→w'.cell? ⟨b,o,none⟩=w1.cell? ⟨b,o,none⟩)∧Below ((w.heap.size+2)) w1 w'∧Ag' w1 w')) (by kernel_rfl) ?_ (fun hHeld=>?_)
 · (try dsimp only)
   exact H0'
 obtain ⟨w2,hw2⟩:=eX w1.drew
 have b2:Hid (Below w1.heap.size w1 w2):=by rw [hw2];exact ⟨rfl,rfl,rfl,nL _,fun _ _=>rfl⟩
 rw [←hw2] at hHeld H0 ⊢
 clear hw2 H0'
 refine tk (i:=0) (h:=?_)
 try simp only [Act.put,lt,ly,lu]
 refine tk (i:=1) (h:=?_)
 try simp only [Act.put,lt,ly,lu]
 refine tk (i:=2) (h:=?_)
 try simp only [Act.put,lt,ly,lu]
 refine tk (i:=3) (h:=?_)
 try simp only [Act.put,lt,ly,lu]
 refine tk (i:=5) (h:=?_)
 try simp only [Act.put,lt,ly,lu]
 refine tk (i:=6) (h:=?_)
 try simp only [Act.put,lt,ly,lu]
 refine tk (i:=7) (h:=?_)
 try simp only [Act.put,lt,ly,lu]
 refine tk (i:=8) (h:=?_)
 try simp only [Act.put,lt,ly,lu]
 generalize hF:wpAnyH _ _ _ _ _=F
 replace hF:=hid hF
 refine Fe ?_
 intro A0 hA
 replace hA:=hid hA
 have H0h:=hid H0
 have BB0:=hid (Below.refl w2.heap.size w2)
 clear H0 hHeld
 have st21:∀ (L:Array Bool) (u:World) (C91:Option Addr) (j91:Nat) (C92:Option Addr) (j92:Nat) (C93:Option Addr) (j93:Nat) (C94:Option Addr) (j94:Nat) (n:Nat),L=#[true,true,true,true,true,true,true,true,true,true,true,true,false]→Hid (Ae' w1 (w.heap.size+2) w1 u)→Hid (Below w2.heap.size w2 u)→Hid (Ah' u (.agg #[.bool (decide (M.num<0)),.slice C91 (len M.num.natAbs) j91,.slice C92 (len M.den) j92]) M)→Hid (Ah' u (.agg #[.bool (decide (m.num<0)),.slice C93 (len m.num.natAbs) j93,.slice C94 (len m.den) j94]) m)→Hid (u.heap[n]?=some (.cells #[.bool false,.slice none 0 0,.slice none 0 0,.bool false,.slice none 0 0,.slice none 0 0] 50 (0,0)))→Hid (w2.heap.size≤n)→F 1 L (Act.put (Act.put (Act.put (Act.put A0 (some 6) (.pointer (some ⟨n,0,none⟩))) (some 11) (.agg #[.bool (decide (M.num<0)),.slice C91 (len M.num.natAbs) j91,.slice C92 (len M.den) j92])) (some 16) (.agg #[.bool (decide (m.num<0)),.slice C93 (len m.num.natAbs) j93,.slice C94 (len m.den) j94])) (some 17) (.agg #[.bool (decide (M.num<0)),.slice C91 (len M.num.natAbs) j91,.slice C92 (len M.den) j92,.bool (decide (m.num<0)),.slice C93 (len m.num.natAbs) j93,.slice C94 (len m.den) j94])) u:=by
  intro L u C91 j91 C92 j92 C93 j93 C94 j94 n hLL HK BB IM Im Z g
  subst hLL
  rw [←hF.out,←hA.out]
  try simp only [Act.put,lt,ly,lu]
  clear H0h BB0 z_x_0 z_x_1 z_x_2 z_x_3 z_x_4 z_x_5 z_y_0 z_y_1 z_y_2 z_y_3 z_y_4 z_y_5 hlta_x hlta_y
  have hNn:(w.heap.size+2)≤n:=by have:=HSZa.out;have:=b2.out.size;have:=g.out;omega
  refine rd (i:=12) (h:=fun K hK=>?_)
  have q0:u.cell? ⟨n,0,none⟩=some (.bool false):=cR _ _ _ _ _ _ Z.out
  have F0:u.frozen? ⟨n,0,none⟩=false:=fR u n 0 _ _ Z.out
  have q1:u.cell? ⟨n,1,none⟩=some (.slice none 0 0):=cR _ _ _ _ _ _ Z.out
  have F1:u.frozen? ⟨n,1,none⟩=false:=fR u n 1 _ _ Z.out
  have q2:u.cell? ⟨n,2,none⟩=some (.slice none 0 0):=cR _ _ _ _ _ _ Z.out
  have F2:u.frozen? ⟨n,2,none⟩=false:=fR u n 2 _ _ Z.out
  have q3:u.cell? ⟨n,3,none⟩=some (.bool false):=cR _ _ _ _ _ _ Z.out
  have F3:u.frozen? ⟨n,3,none⟩=false:=fR u n 3 _ _ Z.out
  have q4:u.cell? ⟨n,4,none⟩=some (.slice none 0 0):=cR _ _ _ _ _ _ Z.out
  have F4:u.frozen? ⟨n,4,none⟩=false:=fR u n 4 _ _ Z.out
  have q5:u.cell? ⟨n,5,none⟩=some (.slice none 0 0):=cR _ _ _ _ _ _ Z.out
  have F5:u.frozen? ⟨n,5,none⟩=false:=fR u n 5 _ _ Z.out
  go_simp
  clear q0 F0 q1 F1 q2 F2 q3 F3 q4 F4 q5 F5
  obtain ⟨w3,hw⟩:=eX (((((((u.setCell ⟨n,0,none⟩ (.bool (decide (M.num<0)))).setCell ⟨n,1,none⟩ (.slice C91 (len M.num.natAbs) j91)).setCell ⟨n,2,none⟩ (.slice C92 (len M.den) j92)).setCell ⟨n,3,none⟩ (.bool (decide (m.num<0)))).setCell ⟨n,4,none⟩ (.slice C93 (len m.num.natAbs) j93)).setCell ⟨n,5,none⟩ (.slice C94 (len m.den) j94)))
  obtain ⟨E_m,OT,LV,BL⟩:=AH Z.out hw
  rw [←hw]
  clear hw
  replace E_m:=hid E_m
  have b3:=hid (BL _ _ g.out BB.out)
  have NM:=hid (LV.rat IM.out)
  have Nm:=hid (LV.rat Im.out)
  have NB:=hid (Ah'.pair NM.out Nm.out)
  refine hK.out _ _ ?_ (fun hHeld=>?_)
  · (try dsimp only)
    exact ⟨Aj (BL ((w.heap.size+2)) _ hNn HK.out.2.1),BL ((w.heap.size+2)) _ hNn HK.out.2.1,Bn' HK.out.2.2 LV⟩
  clear hK K OT LV BL IM Im Z HK BB
  try simp only [Act.put,lt,ly,lu]
  refine wpAnyH_done (by kernel_rfl) ?_ _
  clear hHeld hF hA
  obtain ⟨z_m_0,z_m_1,z_m_2,z_m_3,z_m_4,z_m_5⟩:=Ad' E_m.out
  have D1:=d1.out
  have HX:=hid (Bq' ek.out NM.out Nm.out tM.out tm.out)
  go_wp2_with fail
  refine (HX.out).mono ?_
  rintro e w4 ⟨rfl,b4⟩
  replace b4:=hid b4
  clear HX
  clear z_m_0 z_m_1 z_m_2 z_m_3 z_m_4 z_m_5
  obtain ⟨z_m_0,z_m_1,z_m_2,z_m_3,z_m_4,z_m_5⟩:=Ad' (Ac' E_m.out b4.out)
  have y1_4:=hid (bS (bS b2.out b3.out) b4.out)
  have DR:=(Ac' g3.out y1_4.out)
  have q0:w4.cell? ⟨w.heap.size+2,0,none⟩=some (.bool false):=cR _ _ _ _ _ _ DR
  have F0:w4.frozen? ⟨w.heap.size+2,0,none⟩=false:=fR w4 (w.heap.size+2) 0 _ _ DR
  have q1:w4.cell? ⟨w.heap.size+2,1,none⟩=some (.slice none 0 0):=cR _ _ _ _ _ _ DR
  have F1:w4.frozen? ⟨w.heap.size+2,1,none⟩=false:=fR w4 (w.heap.size+2) 1 _ _ DR
  have q2:w4.cell? ⟨w.heap.size+2,2,none⟩=some (.slice none 0 0):=cR _ _ _ _ _ _ DR
  have F2:w4.frozen? ⟨w.heap.size+2,2,none⟩=false:=fR w4 (w.heap.size+2) 2 _ _ DR
  have q3:w4.cell? ⟨w.heap.size+2,3,none⟩=some (.bool false):=cR _ _ _ _ _ _ DR
  have F3:w4.frozen? ⟨w.heap.size+2,3,none⟩=false:=fR w4 (w.heap.size+2) 3 _ _ DR
  have q4:w4.cell? ⟨w.heap.size+2,4,none⟩=some (.slice none 0 0):=cR _ _ _ _ _ _ DR
  have F4:w4.frozen? ⟨w.heap.size+2,4,none⟩=false:=fR w4 (w.heap.size+2) 4 _ _ DR
  have q5:w4.cell? ⟨w.heap.size+2,5,none⟩=some (.slice none 0 0):=cR _ _ _ _ _ _ DR
  have F5:w4.frozen? ⟨w.heap.size+2,5,none⟩=false:=fR w4 (w.heap.size+2) 5 _ _ DR
  have y0_4:=hid (bS (bS (bS b1.out b2.out) b3.out) b4.out)
  have FB:=y0_4.out
  have FV:=(NB.out.keep b4.out)
  obtain ⟨ue,hw⟩:=eX (((((((w4.setCell ⟨w.heap.size+2,0,none⟩ (.bool (decide (M.num<0)))).setCell ⟨w.heap.size+2,1,none⟩ (.slice C91 (len M.num.natAbs) j91)).setCell ⟨w.heap.size+2,2,none⟩ (.slice C92 (len M.den) j92)).setCell ⟨w.heap.size+2,3,none⟩ (.bool (decide (m.num<0)))).setCell ⟨w.heap.size+2,4,none⟩ (.slice C93 (len m.num.natAbs) j93)).setCell ⟨w.heap.size+2,5,none⟩ (.slice C94 (len m.den) j94)))
  obtain ⟨E_ue,-,LV,BL⟩:=AH DR hw
  have FE:=hid (LV.rbox FV)
  replace FB:=hid (BL _ _ (by omega) FB)
  replace E_ue:=hid E_ue
  replace hw:=hid hw
  clear DR FV LV BL
  go_wp2_with fail
  rw [←hw.out]
  obtain ⟨r0,r1,r2,r3,r4,r5⟩:=Ad' E_ue.out
  refine bP (v:=.tuple #[.agg #[.bool (decide (M.num<0)),.slice C91 (len M.num.natAbs) j91,.slice C92 (len M.den) j92,.bool (decide (m.num<0)),.slice C93 (len m.num.natAbs) j93,.slice C94 (len m.den) j94],.bool true]) ?_ rfl ⟨_,rfl,FE.out,FB.out⟩
  simp [results,Tryz.results30,go_sem,r0,r1,r2,r3,r4,r5]
 try simp only [←hA.out,Act.put,lt,ly,lu] at st21
 replace st21:=hid st21
 have st20:∀ (L:Array Bool) (u:World) (C91:Option Addr) (j91:Nat) (C92:Option Addr) (j92:Nat) (C93:Option Addr) (j93:Nat) (C94:Option Addr) (j94:Nat),L=#[true,true,true,true,true,true,true,true,true,true,true,false,false]→Hid (Ae' w1 (w.heap.size+2) w1 u)→Hid (Below w2.heap.size w2 u)→Hid (Ah' u (.agg #[.bool (decide (M.num<0)),.slice C91 (len M.num.natAbs) j91,.slice C92 (len M.den) j92]) M)→Hid (Ah' u (.agg #[.bool (decide (m.num<0)),.slice C93 (len m.num.natAbs) j93,.slice C94 (len m.den) j94]) m)→F 2 L (Act.put (Act.put (Act.put A0 (some 11) (.agg #[.bool (decide (M.num<0)),.slice C91 (len M.num.natAbs) j91,.slice C92 (len M.den) j92])) (some 16) (.agg #[.bool (decide (m.num<0)),.slice C93 (len m.num.natAbs) j93,.slice C94 (len m.den) j94])) (some 17) (.agg #[.bool (decide (M.num<0)),.slice C91 (len M.num.natAbs) j91,.slice C92 (len M.den) j92,.bool (decide (m.num<0)),.slice C93 (len m.num.natAbs) j93,.slice C94 (len m.den) j94])) u:=by
  intro L u C91 j91 C92 j92 C93 j93 C94 j94 hLL HK BB IM Im
  subst hLL
  rw [←hF.out,←hA.out]
  try simp only [Act.put,lt,ly,lu]
  refine wpAnyH_ready (rs:=[11]) (by kernel_rfl) (by simp) (AllReadyH.cons (o:=?o11q24) ?e11q24 ?k11q24 AllReadyH.nil)
  case e11q24=>simp only [lg,lz,ls] <;> rfl
  case k11q24 =>
   intro K hK
   go_simp
   have hb2:Below u.heap.size u _:=Ai u (.cells #[.bool false,.slice none 0 0,.slice none 0 0,.bool false,.slice none 0 0,.slice none 0 0] 50)
   have Z2:=hA_ u (.cells #[.bool false,.slice none 0 0,.slice none 0 0,.bool false,.slice none 0 0,.slice none 0 0] 50)
   have hsz:w2.heap.size≤u.heap.size:=BB.out.size
   have HK2:=Ak' HK.out HSZa hb2
   have BB2:=hid (bS BB.out hb2)
   have HK3:=HK2;unfold Ae' at HK3;refine hK.out _ _ ?_ (fun hHeld=>?_)
   · (try dsimp only);with_reducible exact HK3
   clear hK K HK3;try simp only [Act.put,lt,ly,lu]
   rw [hF.out]
   exact st21.out _ _ C91 j91 C92 j92 C93 j93 C94 j94 u.heap.size (by kernel_rfl) (hid HK2) BB2 (hid (IM.out.keep hb2)) (hid (Im.out.keep hb2)) (hid Z2) (hid hsz)
 try simp only [←hA.out,Act.put,lt,ly,lu] at st20
 replace st20:=hid st20
 have y0_2:=hid (bS b1.out b2.out)
 have st11:∀ (L:Array Bool) (u:World) (v11:Value) (n:Nat),L=#[true,true,true,true,true,true,true,true,true,false,false,true,false]→Hid (Ae' w1 (w.heap.size+2) w1 u)→Hid (Below w2.heap.size w2 u)→Hid (Ah' u v11 M)→Hid (u.heap[n]?=some (.cells #[.bool false,.slice none 0 0,.slice none 0 0,.bool false,.slice none 0 0,.slice none 0 0] 50 (0,0)))→Hid (w2.heap.size≤n)→F 3 L (Act.put (Act.put A0 (some 6) (.pointer (some ⟨n,0,none⟩))) (some 11) v11) u:=by
  intro L u v11 n hLL HK BB IM Z g
  subst hLL
  rw [←hF.out,←hA.out]
  try simp only [Act.put,lt,ly,lu]
  refine wpAnyH_ready (rs:=[9]) (by kernel_rfl) (by simp) (AllReadyH.cons (o:=?o9q25) ?e9q25 ?k9q25 AllReadyH.nil)
  case e9q25=>simp only [lg,lz,ls] <;> rfl
  case k9q25 =>
   intro K hK
   go_simp
   go_at_call 72
   refine (Ca hm.out (hxh.out.keep (bS y0_2.out BB.out)) (hyh.out.keep (bS y0_2.out BB.out)) sb.out sd.out).mono ?_
   rintro e u2 ⟨v2,rfl,hv2,hb2⟩
   obtain ⟨C91,j91,C92,j92,rfl,-,-⟩:=id IM.out.opened
   obtain ⟨C93,j93,C94,j94,rfl,-,-⟩:=id hv2.opened
   have HK2:=Ak' HK.out HSZa hb2
   have BB2:=hid (bS BB.out hb2)
   have HK3:=HK2;unfold Ae' at HK3;refine hK.out _ _ ?_ (fun hHeld=>?_)
   · (try dsimp only);with_reducible exact HK3
   clear hK K HK3;try simp only [Act.put,lt,ly,lu]
   refine tk (i:=10) (h:=?_)
   try simp only [Act.put,lt,ly,lu]
   rw [hF.out]
   exact st21.out _ _ C91 j91 C92 j92 C93 j93 C94 j94 n (by kernel_rfl) (hid HK2) BB2 (hid (IM.out.keep hb2)) (hid hv2) (hid (Ac' Z.out hb2)) g
 try simp only [←hA.out,Act.put,lt,ly,lu] at st11
 replace st11:=hid st11
 have st10:∀ (L:Array Bool) (u:World) (v11:Value),L=#[true,true,true,true,true,true,true,true,true,false,false,false,false]→Hid (Ae' w1 (w.heap.size+2) w1 u)→Hid (Below w2.heap.size w2 u)→Hid (Ah' u v11 M)→F 4 L (Act.put A0 (some 11) v11) u:=by
  intro L u v11 hLL HK BB IM
  subst hLL
  rw [←hF.out,←hA.out]
  try simp only [Act.put,lt,ly,lu]
  refine wpAnyH_ready (rs:=[9,11]) (by kernel_rfl) (by simp) (AllReadyH.cons (o:=?o9q26) ?e9q26 ?k9q26 (AllReadyH.cons (o:=?o11q26) ?e11q26 ?k11q26 AllReadyH.nil))
  case e9q26=>simp only [lg,lz,ls] <;> rfl
  case e11q26=>simp only [lg,lz,ls] <;> rfl
  case k9q26 =>
   intro K hK
   go_simp
   go_at_call 72
   refine (Ca hm.out (hxh.out.keep (bS y0_2.out BB.out)) (hyh.out.keep (bS y0_2.out BB.out)) sb.out sd.out).mono ?_
   rintro e u2 ⟨v2,rfl,hv2,hb2⟩
   obtain ⟨C91,j91,C92,j92,rfl,-,-⟩:=id IM.out.opened
   obtain ⟨C93,j93,C94,j94,rfl,-,-⟩:=id hv2.opened
   have HK2:=Ak' HK.out HSZa hb2
   have BB2:=hid (bS BB.out hb2)
   have HK3:=HK2;unfold Ae' at HK3;refine hK.out _ _ ?_ (fun hHeld=>?_)
   · (try dsimp only);with_reducible exact HK3
   clear hK K HK3;try simp only [Act.put,lt,ly,lu]
   refine tk (i:=10) (h:=?_)
   try simp only [Act.put,lt,ly,lu]
   rw [hF.out]
   exact st20.out _ _ C91 j91 C92 j92 C93 j93 C94 j94 (by kernel_rfl) (hid HK2) BB2 (hid (IM.out.keep hb2)) (hid hv2)
  case k11q26 =>
   intro K hK
   go_simp
   have hb2:Below u.heap.size u _:=Ai u (.cells #[.bool false,.slice none 0 0,.slice none 0 0,.bool false,.slice none 0 0,.slice none 0 0] 50)
   have Z2:=hA_ u (.cells #[.bool false,.slice none 0 0,.slice none 0 0,.bool false,.slice none 0 0,.slice none 0 0] 50)
   have hsz:w2.heap.size≤u.heap.size:=BB.out.size
   have HK2:=Ak' HK.out HSZa hb2
   have BB2:=hid (bS BB.out hb2)
   have HK3:=HK2;unfold Ae' at HK3;refine hK.out _ _ ?_ (fun hHeld=>?_)
   · (try dsimp only);with_reducible exact HK3
   clear hK K HK3;try simp only [Act.put,lt,ly,lu]
   rw [hF.out]
   exact st11.out _ _ v11 u.heap.size (by kernel_rfl) (hid HK2) BB2 (hid (IM.out.keep hb2)) (hid Z2) (hid hsz)
 try simp only [←hA.out,Act.put,lt,ly,lu] at st10
 replace st10:=hid st10
 have st01:∀ (L:Array Bool) (u:World) (n:Nat),L=#[true,true,true,true,false,true,true,true,true,false,false,true,false]→Hid (Ae' w1 (w.heap.size+2) w1 u)→Hid (Below w2.heap.size w2 u)→Hid (u.heap[n]?=some (.cells #[.bool false,.slice none 0 0,.slice none 0 0,.bool false,.slice none 0 0,.slice none 0 0] 50 (0,0)))→Hid (w2.heap.size≤n)→F 4 L (Act.put A0 (some 6) (.pointer (some ⟨n,0,none⟩))) u:=by
  intro L u n hLL HK BB Z g
  subst hLL
  rw [←hF.out,←hA.out]
  try simp only [Act.put,lt,ly,lu]
  refine wpAnyH_ready (rs:=[4]) (by kernel_rfl) (by simp) (AllReadyH.cons (o:=?o4q27) ?e4q27 ?k4q27 AllReadyH.nil)
  case e4q27=>simp only [lg,lz,ls] <;> rfl
  case k4q27 =>
   intro K hK
   go_simp
   go_at_call 73
   refine (Ca' hM.out (hxl.out.keep (bS y0_2.out BB.out)) (hyl.out.keep (bS y0_2.out BB.out)) sa.out sc.out).mono ?_
   rintro e u2 ⟨v2,rfl,hv2,hb2⟩
   have HK2:=Ak' HK.out HSZa hb2
   have BB2:=hid (bS BB.out hb2)
   have HK3:=HK2;unfold Ae' at HK3;refine hK.out _ _ ?_ (fun hHeld=>?_)
   · (try dsimp only);with_reducible exact HK3
   clear hK K HK3;try simp only [Act.put,lt,ly,lu]
   rw [hF.out]
   exact st11.out _ _ v2 n (by kernel_rfl) (hid HK2) BB2 (hid hv2) (hid (Ac' Z.out hb2)) g
 try simp only [←hA.out,Act.put,lt,ly,lu] at st01
 replace st01:=hid st01
 have st00:∀ (L:Array Bool) (u:World),L=#[true,true,true,true,false,true,true,true,true,false,false,false,false]→Hid (Ae' w1 (w.heap.size+2) w1 u)→Hid (Below w2.heap.size w2 u)→F 5 L A0 u:=by
  intro L u  hLL HK BB
  subst hLL
  rw [←hF.out,←hA.out]
  try simp only [Act.put,lt,ly,lu]
  refine wpAnyH_ready (rs:=[4,11]) (by kernel_rfl) (by simp) (AllReadyH.cons (o:=?o4q28) ?e4q28 ?k4q28 (AllReadyH.cons (o:=?o11q28) ?e11q28 ?k11q28 AllReadyH.nil))
  case e4q28=>simp only [lg,lz,ls] <;> rfl
  case e11q28=>simp only [lg,lz,ls] <;> rfl
  case k4q28 =>
   intro K hK
   go_simp
   go_at_call 73
   refine (Ca' hM.out (hxl.out.keep (bS y0_2.out BB.out)) (hyl.out.keep (bS y0_2.out BB.out)) sa.out sc.out).mono ?_
   rintro e u2 ⟨v2,rfl,hv2,hb2⟩
   have HK2:=Ak' HK.out HSZa hb2
   have BB2:=hid (bS BB.out hb2)
   have HK3:=HK2;unfold Ae' at HK3;refine hK.out _ _ ?_ (fun hHeld=>?_)
   · (try dsimp only);with_reducible exact HK3
   clear hK K HK3;try simp only [Act.put,lt,ly,lu]
   rw [hF.out]
   exact st10.out _ _ v2 (by kernel_rfl) (hid HK2) BB2 (hid hv2)
  case k11q28 =>
   intro K hK
   go_simp
   have hb2:Below u.heap.size u _:=Ai u (.cells #[.bool false,.slice none 0 0,.slice none 0 0,.bool false,.slice none 0 0,.slice none 0 0] 50)
   have Z2:=hA_ u (.cells #[.bool false,.slice none 0 0,.slice none 0 0,.bool false,.slice none 0 0,.slice none 0 0] 50)
   have hsz:w2.heap.size≤u.heap.size:=BB.out.size
   have HK2:=Ak' HK.out HSZa hb2
   have BB2:=hid (bS BB.out hb2)
   have HK3:=HK2;unfold Ae' at HK3;refine hK.out _ _ ?_ (fun hHeld=>?_)
   · (try dsimp only);with_reducible exact HK3
   clear hK K HK3;try simp only [Act.put,lt,ly,lu]
   rw [hF.out]
   exact st01.out _ _ u.heap.size (by kernel_rfl) (hid HK2) BB2 (hid Z2) (hid hsz)
 try simp only [←hA.out,Act.put,lt,ly,lu] at st00
 replace st00:=hid st00
 have HA:=hA.out
 subst HA
 exact st00.out _ _ (by kernel_rfl) H0h BB0
end Go.Proofs.YtlcimajjnfbidaaGreatDoor.Rf
namespace Go.Proofs.YtlcimajjnfbidaaGreatDoor
open Lib (hid)
open Vx
theorem Ct (x:Rat):(0≤x∧x.abs=x)∨(x≤0∧x.abs = -x):=by
 unfold Rat.abs
 split
 · left;constructor <;> grind
 · right;constructor <;> grind
theorem IU' (x y:Rat):leastOf x [y]=if y<x then y else x:=rfl
theorem Hd' (x y:Rat):greatestOf x [y]=if x<y then y else x:=rfl
theorem IV (x y z:Rat):leastOf x [y,z]=if z<(if y<x then y else x) then z else (if y<x then y else x):=rfl
theorem He (x y z:Rat):greatestOf x [y,z]=if (if x<y then y else x)<z then z else (if x<y then y else x):=rfl
theorem DJ {a b:Rat} (h:a≤b):absLo a b=if a≤0∧0≤b then 0 else if 0<a then a else -b:=by
 have ha:=Ct a
 have hb:=Ct b
 unfold absLo
 rw [IU',IV]
 grind
theorem Fe' {a b:Rat} (h:a≤b):absHi a b=if -a≤b then b else -a:=by
 have ha:=Ct a
 have hb:=Ct b
 unfold absHi
 rw [Hd',He]
 grind
theorem IV' {a b x:Rat} (hab:a≤b) (h1:a≤x) (h2:x≤b):absLo a b≤x.abs∧x.abs≤absHi a b:=by
 have hx:=Ct x
 rw [DJ hab,Fe' hab]
 constructor <;> grind
theorem DW' {x y:Rat} (n:Nat) (h:0≤x) (h2:x≤y):x^n≤y^n:=by
 induction n with
 | zero=>rw [Rat.pow_zero,Rat.pow_zero];exact Rat.le_refl
 | succ n ih =>
   rw [Rat.pow_succ,Rat.pow_succ]
   have i1:=Rat.mul_le_mul_of_nonneg_right ih h
   have i2:=Rat.mul_le_mul_of_nonneg_left h2 (Rat.pow_nonneg (n:=n) (Rat.le_trans h h2))
   exact Rat.le_trans i1 i2
theorem Ct' (x:Rat) (n:Nat):(-x)^n=if n%2=0 then x^n else -(x^n):=by
 induction n with
 | zero=>rw [Rat.pow_zero,Rat.pow_zero];rfl
 | succ n ih =>
   rw [Rat.pow_succ,Rat.pow_succ,ih]
   rcases Nat.mod_two_eq_zero_or_one n with h | h
   · rw [if_pos h,if_neg (by omega),Rat.mul_neg]
   · rw [if_neg (by omega),if_pos (by omega),Rat.neg_mul,Rat.mul_neg,Rat.neg_neg]
theorem IF {x:Rat} {n:Nat} (h:n%2=0):x.abs^n=x^n:=by
 rcases Ct x with ⟨-,e⟩ | ⟨-,e⟩ <;> rw [e]
 rw [Ct',if_pos h]
theorem FQ' {x y:Rat} {n:Nat} (hn:n%2≠0) (h:x≤y):x^n≤y^n:=by
 rcases Decidable.em (0≤x) with hx | hx
 · exact DW' n hx h
 · rcases Decidable.em (0≤y) with hy | hy
   · have i1:=Rat.pow_nonneg (n:=n) hy
     have i2:=Rat.pow_nonneg (n:=n) (show 0 ≤ -x by grind)
     rw [Ct',if_neg hn] at i2
     grind
   · have i1:=DW' n (show 0 ≤ -y by grind) (show -y ≤ -x by grind)
     rw [Ct',Ct',if_neg hn,if_neg hn] at i1
     grind
theorem Ff {a b:Rat} (h:a≤b):0≤absLo a b:=by rw [DJ h];grind
theorem Dj' {a b x:Rat} {n:Nat} (hab:a≤b) (h1:a≤x) (h2:x≤b):(if n%2=0 then absLo a b else a)^n≤x^n∧x^n≤(if n%2=0 then absHi a b else b)^n:=by
 rcases Decidable.em (n%2=0) with h | h
 · rw [if_pos h,if_pos h]
   obtain ⟨i1,i2⟩:=IV' hab h1 h2
   have i0:=Ff hab
   have e:=IF (x:=x) h
   rw [←e]
   exact ⟨DW' n i0 i1,DW' n (Rat.le_trans i0 i1) i2⟩
 · rw [if_neg h,if_neg h]
   exact ⟨FQ' h h1,FQ' h h2⟩
theorem Ff' {a b:Rat} {n:Nat} (hab:a≤b) :
   ((if n%2=0 then absLo a b else a)^n=a^n∨(if n%2=0 then absLo a b else a)^n=b^n∨((a≤0∧0≤b)∧(if n%2=0 then absLo a b else a)^n=0^n)) ∧
   ((if n%2=0 then absHi a b else b)^n=a^n∨(if n%2=0 then absHi a b else b)^n=b^n):=by
 rcases Decidable.em (n%2=0) with h | h
 · rw [if_pos h,if_pos h,DJ hab,Fe' hab]
   have ea:(-a)^n=a^n:=by rw [Ct',if_pos h]
   have eb:(-b)^n=b^n:=by rw [Ct',if_pos h]
   constructor
   · split
     · rename_i h0;exact Or.inr (Or.inr ⟨h0,rfl⟩)
     · split
       · exact Or.inl rfl
       · exact Or.inr (Or.inl eb)
   · split
     · exact Or.inr rfl
     · exact Or.inl ea
 · rw [if_neg h,if_neg h]
   exact ⟨Or.inl rfl,Or.inr rfl⟩
theorem IF' {x y l:Rat} (h1:l≤x) (h2:l≤y) (h:l=x∨l=y):leastOf x [y]=l:=by
 show (if y<x then y else x)=l
 grind
theorem IG {x y l:Rat} (h1:x≤l) (h2:y≤l) (h:l=x∨l=y):greatestOf x [y]=l:=by
 show (if x<y then y else x)=l
 grind
theorem He' {x y z l:Rat} (h1:l≤x) (h2:l≤y) (h3:l≤z) (h:l=x∨l=y∨l=z):leastOf x [y,z]=l:=by
 show (if z<(if y<x then y else x) then z else (if y<x then y else x))=l
 grind
theorem Hf {x y z l:Rat} (h1:x≤l) (h2:y≤l) (h3:z≤l) (h:l=x∨l=y):greatestOf x [y,z]=l:=by
 show (if (if x<y then y else x)<z then z else (if x<y then y else x))=l
 grind
theorem Dk {a b:Rat} {n:Nat} (hab:a≤b) (h:¬ (a≤0∧0≤b)):leastOf (a^n) [b^n]=(if n%2=0 then absLo a b else a)^n∧greatestOf (a^n) [b^n]=(if n%2=0 then absHi a b else b)^n:=by
 obtain ⟨e1,e2⟩:=Ff' (n:=n) hab
 obtain ⟨i1,i2⟩:=Dj' (n:=n) hab Rat.le_refl hab
 obtain ⟨j1,j2⟩:=Dj' (n:=n) hab hab Rat.le_refl
 refine ⟨IF' i1 j1 ?_,IG i2 j2 e2⟩
 rcases e1 with e | e | ⟨e,-⟩
 · exact Or.inl e
 · exact Or.inr e
 · exact absurd e h
theorem Dy {a b:Rat} {n:Nat} (hab:a≤b) (h:a≤0∧0≤b):leastOf (a^n) [b^n,0^n]=(if n%2=0 then absLo a b else a)^n∧greatestOf (a^n) [b^n,0^n]=(if n%2=0 then absHi a b else b)^n:=by
 obtain ⟨e1,e2⟩:=Ff' (n:=n) hab
 obtain ⟨i1,i2⟩:=Dj' (n:=n) hab Rat.le_refl hab
 obtain ⟨j1,j2⟩:=Dj' (n:=n) hab hab Rat.le_refl
 obtain ⟨k1,k2⟩:=Dj' (n:=n) hab h.1 h.2
 refine ⟨He' i1 j1 k1 ?_,Hf i2 j2 k2 e2⟩
 rcases e1 with e | e | ⟨-,e⟩
 · exact Or.inl e
 · exact Or.inr (Or.inl e)
 · exact Or.inr (Or.inr e)
theorem Dk' {a b:Rat} (h:¬ (a≤0∧0≤b)):leastOf a.abs [b.abs]=absLo a b∧greatestOf a.abs [b.abs]=absHi a b:=by
 unfold absLo absHi
 rw [if_neg h,if_neg h]
 exact ⟨rfl,rfl⟩
theorem Dy' {a b:Rat} (h:a≤0∧0≤b):leastOf a.abs [b.abs,0]=absLo a b∧greatestOf a.abs [b.abs,0]=absHi a b:=by
 unfold absLo absHi
 rw [if_pos h,if_pos h]
 have ha:0≤a.abs:=Rat.abs_nonneg
 have hb:0≤b.abs:=Rat.abs_nonneg
 constructor
 · show (if 0<(if b.abs<a.abs then b.abs else a.abs) then 0 else (if b.abs<a.abs then b.abs else a.abs))=(if b.abs<(if a.abs<0 then a.abs else 0) then b.abs else (if a.abs<0 then a.abs else 0))
   grind
 · show (if (if a.abs<b.abs then b.abs else a.abs)<0 then 0 else (if a.abs<b.abs then b.abs else a.abs))=(if (if 0<a.abs then a.abs else 0)<b.abs then b.abs else (if 0<a.abs then a.abs else 0))
   grind
theorem Eu {a b c d:Rat} (hab:a≤b) (hcd:c≤d):(if a≤c then a else c)=leastOf a [b,c,d]∧(if d≤b then b else d)=greatestOf a [b,c,d]:=by
 constructor
 · show _=(if d<(if c<(if b<a then b else a) then c else (if b<a then b else a)) then d else (if c<(if b<a then b else a) then c else (if b<a then b else a)))
   grind
 · show _=(if (if (if a<b then b else a)<c then c else (if a<b then b else a))<d then d else (if (if a<b then b else a)<c then c else (if a<b then b else a)))
   grind
theorem DX' {a b c d:Rat}:greatestOf a [c]=(if c≤a then a else c)∧leastOf b [d]=(if b≤d then b else d):=by
 constructor
 · show (if a<c then c else a)=_
   grind
 · show (if d<b then d else b)=_
   grind
theorem Eu' {a b c d M m:Rat} (hab:a≤b) (hcd:c≤d) (hM:(if c≤a then a else c)=M) (hm:(if b≤d then b else d)=m):m<M↔(b<c∨d<a):=by
 subst hM hm
 grind
open Go.RowKit
theorem CB {w:World} {vx vy:Value} {x y:Rat} {n:Int} (hn:cmpQ x y=n) (hx:Af w vx x) (hy:Af w vy y) (hs:Aa' x≤536870912) (ht:Aa' y≤536870912) :
   Calls Tryz.prog 74 #[vx,vy] w (AT' w n):=by rw [←hn];exact A1' hx hy (nT hs (by omega)) (nT ht (by omega))
theorem Ag'.box {wS w:World} {v:Value} {a b:Rat} (h:Ag' wS w) (hv:Am' wS v a b):Am' w v a b:=by
 obtain ⟨v1,v2,v3,v4,e,h1,h2,h3,h4⟩:=hv
 exact ⟨v1,v2,v3,v4,e,h _ _ h1,h _ _ h2,h _ _ h3,h _ _ h4⟩
theorem Eb' {F:Nat→Array Bool→Act→World→Prop} {n:Nat} {L:Array Bool} {A:Act} {w:World} (h:∀ A0,A=A0→F n L A0 w):F n L A w:=h _ rfl
end Go.Proofs.YtlcimajjnfbidaaGreatDoor
