/-
  Contracts of the functions that the law calls, for every input (Th).
-/
import Derived.Test.YtbigkkjnhcpgiaaGreatDoorQ00
import Derived.Test.YtbigkkjnhcpgiaaGreatDoorQ38
set_option linter.all false
set_option maxRecDepth 100000
set_option maxHeartbeats 40000000
namespace Go.Proofs.YtbigkkjnhcpgiaaGreatDoor.Rf
open Lib (hid)
open Go.RowKit
open Rx
open Vx (Aa' Al' Am)
open List renaming getElem?_toArray → lg, getElem?_cons_zero → lz, getElem?_cons_succ → ls, setIfInBounds_toArray → lt, set_cons_zero → ly, set_cons_succ → lu
theorem F0' {F:Nat→Array Bool→Act→World→Prop} {n:Nat} {L:Array Bool} {A:Act} {w:World} (h:∀ A0,A=A0→F n L A0 w):F n L A w:=h _ rfl
def GA' (w:World) (l h:Rat) (e:Ending) (w':World):Prop:=∃ v1 v2,e=.returned (.tuple #[v1,v2])∧Ao' w' v1 l h∧Aw w' v2 l h∧Below w.heap.size w w'
theorem CH' {w:World} {s1 s2:ByteArray} {mx:Int} {p q l h:Rat} (ep:(Ap' s1).1=p) (eq:(Ap' s2).1=q) (el:(if q<p then q else p)=l) (eh:(if q<p then p else q)=h)
   (hs1:s1.size≤1048576) (hs2:s2.size≤1048576) (hM:w.cell? ⟨1,0,none⟩=some (.int .i64 mx)) :
   Calls Tryz.prog 6 #[.agg #[.string s1,.string s2]] w (GA' w l h):=by
 have hp:Aa' p≤4100:=by rw [←ep];exact EC s1
 have hq:Aa' q≤4100:=by rw [←eq];exact EC s2
 have tp:Aa' p≤268435456:=by omega
 have tq:Aa' q≤268435456:=by omega
 clear hp hq
 replace tp:=hid tp
 replace tq:=hid tq
 replace ep:=hid ep
 replace eq:=hid eq
 replace hs1:=hid hs1
 replace hs2:=hid hs2
 replace hM:=hid hM
 obtain ⟨c,ec⟩:=eY (cmpQ p q:Int)
 replace ec:=hid ec
 obtain ⟨w1,hw1⟩:=eX (((w.alloc (.cells #[.string s1,.string s2] 24)).alloc (.cells #[.bool false,.slice none 0 0,.slice none 0 0,.bool false,.slice none 0 0,.slice none 0 0] 35)).alloc (.cells #[.bool false,.slice none 0 0,.slice none 0 0,.bool false,.slice none 0 0,.slice none 0 0] 41))
 obtain ⟨b1,g1,g2,g3⟩:=AK' hw1
 replace b1:=hid b1
 replace g1:=hid g1
 replace g2:=hid g2
 replace g3:=hid g3
 have hg:w1.heap[w.heap.size]?=some (.cells #[.string s1,.string s2] 24 (0,0)):=((Below.refl _ w1).block _ (gE.1 g1.out).1).trans g1.out
 have z_e_0:w1.cell? ⟨w.heap.size,0,none⟩=some (.string s1):=cR _ _ _ _ _ _ hg
 have z_e_1:w1.cell? ⟨w.heap.size,1,none⟩=some (.string s2):=cR _ _ _ _ _ _ hg
 clear hg
 go_enter Tryz.func6,Tryz.ntmps6
 go_upto_region 1 with fail
 rw [←hw1]
 clear hw1
 have HX:=hid (DO' ep.out hs1.out (Av' hM.out b1.out))
 go_wp2_with fail
 refine (HX.out).mono ?_
 rintro e w2 ⟨va2,vb2,rfl,ha2,hb2,b2⟩
 obtain ⟨C1,j1,C2,j2,rfl,-,-⟩:=id ha2.opened
 replace ha2:=hid ha2
 obtain ⟨C3,j3,C4,j4,rfl,-,-⟩:=id hb2.opened
 replace hb2:=hid hb2
 replace b2:=hid b2
 clear HX
 clear z_e_0 z_e_1
 go_upto_region 2 with fail
 obtain ⟨w3,hw3⟩:=eX ((w2.alloc (.cells #[.bool (decide (p.num<0)),.slice C1 (Vx.len p.num.natAbs) j1,.slice C2 (Vx.len (below p.den)) j2] 33)).alloc (.cells #[.bool (decide (p.num<0)),.slice C3 (len p.num.natAbs) j3,.slice C4 (len p.den) j4] 39))
 obtain ⟨b3,L3,M3⟩:=CV w2 (.cells #[.bool (decide (p.num<0)),.slice C1 (Vx.len p.num.natAbs) j1,.slice C2 (Vx.len (below p.den)) j2] 33) (.cells #[.bool (decide (p.num<0)),.slice C3 (len p.num.natAbs) j3,.slice C4 (len p.den) j4] 39)
 rw [←hw3] at b3 L3 M3 ⊢
 clear hw3
 replace b3:=hid b3
 replace L3:=hid L3
 replace M3:=hid M3
 have hg:w3.heap[w.heap.size]?=some (.cells #[.string s1,.string s2] 24 (0,0)):=((bS b2.out b3.out).block _ (gE.1 g1.out).1).trans g1.out
 have z_e_0:w3.cell? ⟨w.heap.size,0,none⟩=some (.string s1):=cR _ _ _ _ _ _ hg
 have z_e_1:w3.cell? ⟨w.heap.size,1,none⟩=some (.string s2):=cR _ _ _ _ _ _ hg
 clear hg
 have HX:=hid (DO' eq.out hs2.out (Av' hM.out (bS (bS b1.out b2.out) b3.out)))
 go_wp2_with fail
 refine (HX.out).mono ?_
 rintro e w4 ⟨va4,vb4,rfl,ha4,hb4,b4⟩
 obtain ⟨C5,j5,C6,j6,rfl,-,-⟩:=id ha4.opened
 replace ha4:=hid ha4
 obtain ⟨C7,j7,C8,j8,rfl,-,-⟩:=id hb4.opened
 replace hb4:=hid hb4
 replace b4:=hid b4
 clear HX
 clear z_e_0 z_e_1
 go_upto_region 3 with fail
 obtain ⟨w5,hw5⟩:=eX ((w4.alloc (.cells #[.bool (decide (q.num<0)),.slice C5 (Vx.len q.num.natAbs) j5,.slice C6 (Vx.len (below q.den)) j6] 33)).alloc (.cells #[.bool (decide (q.num<0)),.slice C7 (len q.num.natAbs) j7,.slice C8 (len q.den) j8] 39))
 obtain ⟨b5,L5,M5⟩:=CV w4 (.cells #[.bool (decide (q.num<0)),.slice C5 (Vx.len q.num.natAbs) j5,.slice C6 (Vx.len (below q.den)) j6] 33) (.cells #[.bool (decide (q.num<0)),.slice C7 (len q.num.natAbs) j7,.slice C8 (len q.den) j8] 39)
 rw [←hw5] at b5 L5 M5 ⊢
 clear hw5
 replace b5:=hid b5
 replace L5:=hid L5
 replace M5:=hid M5
 have hg:w5.heap[w2.heap.size+1]?=some (.cells #[.bool (decide (p.num<0)),.slice C3 (len p.num.natAbs) j3,.slice C4 (len p.den) j4] 39 (0,0)):=((bS b4.out b5.out).block _ (gE.1 M3.out).1).trans M3.out
 obtain ⟨z_x_0,z_x_1,z_x_2⟩:=Ab' hg
 clear hg
 have hg:w5.heap[w4.heap.size+1]?=some (.cells #[.bool (decide (q.num<0)),.slice C7 (len q.num.natAbs) j7,.slice C8 (len q.den) j8] 39 (0,0)):=((Below.refl _ w5).block _ (gE.1 M5.out).1).trans M5.out
 obtain ⟨z_y_0,z_y_1,z_y_2⟩:=Ab' hg
 clear hg
 have HX:=hid (CC ec.out (hb2.out.keep (bS (bS b3.out b4.out) b5.out)) (hb4.out.keep b5.out) tp.out tq.out)
 go_wp2_with fail
 refine (HX.out).mono ?_
 rintro e w6 ⟨rfl,b6⟩
 replace b6:=hid b6
 clear HX
 clear z_x_0 z_x_1 z_x_2 z_y_0 z_y_1 z_y_2
 obtain ⟨BA,hBA⟩:=eY w2.heap.size
 obtain ⟨BX,hBX⟩:=eY (w2.heap.size+1)
 obtain ⟨BB,hBB⟩:=eY w4.heap.size
 obtain ⟨BY,hBY⟩:=eY (w4.heap.size+1)
 have Ra:w6.heap[BA]?=some (.cells #[.bool (decide (p.num<0)),.slice C1 (Vx.len p.num.natAbs) j1,.slice C2 (Vx.len (below p.den)) j2] 33 (0,0)):=by rw [←hBA];exact Ad' L3.out (bS (bS b4.out b5.out) b6.out)
 have Rx:w6.heap[BX]?=some (.cells #[.bool (decide (p.num<0)),.slice C3 (len p.num.natAbs) j3,.slice C4 (len p.den) j4] 39 (0,0)):=by rw [←hBX];exact Ad' M3.out (bS (bS b4.out b5.out) b6.out)
 have Rb:w6.heap[BB]?=some (.cells #[.bool (decide (q.num<0)),.slice C5 (Vx.len q.num.natAbs) j5,.slice C6 (Vx.len (below q.den)) j6] 33 (0,0)):=by rw [←hBB];exact Ad' L5.out b6.out
 have Ry:w6.heap[BY]?=some (.cells #[.bool (decide (q.num<0)),.slice C7 (len q.num.natAbs) j7,.slice C8 (len q.den) j8] 39 (0,0)):=by rw [←hBY];exact Ad' M5.out b6.out
 have RR:w6.heap[w.heap.size+1]?=_:=Ad' g2.out (bS (bS (bS (bS b2.out b3.out) b4.out) b5.out) b6.out)
 have RS:w6.heap[w.heap.size+2]?=_:=Ad' g3.out (bS (bS (bS (bS b2.out b3.out) b4.out) b5.out) b6.out)
 have l1:w.heap.size+2<BA:=by rw [←hBA];have:=at_lt (Ad' g3.out b2.out);omega
 have l2:BA<BX:=by rw [←hBA,←hBX];omega
 have l3:BX<BB:=by rw [←hBX,←hBB];have:=at_lt (Ad' M3.out b4.out);omega
 have l4:BB<BY:=by rw [←hBB,←hBY];omega
 have Na:=(ha2.out.keep (bS (bS (bS b3.out b4.out) b5.out) b6.out))
 have Nx:=(hb2.out.keep (bS (bS (bS b3.out b4.out) b5.out) b6.out))
 have Nb:=(ha4.out.keep (bS b5.out b6.out))
 have Ny:=(hb4.out.keep (bS b5.out b6.out))
 have HB:=(bS (bS (bS (bS (bS b1.out b2.out) b3.out) b4.out) b5.out) b6.out)
 rw [hBX,hBA,hBY,hBB]
 clear b1 b2 b3 b4 b5 b6 g1 g2 g3 L3 M3 L5 M5 ha2 hb2 ha4 hb4 hBA hBX hBB hBY hs1 hs2
 replace Ra:=hid Ra
 replace Rx:=hid Rx
 replace Rb:=hid Rb
 replace Ry:=hid Ry
 replace RR:=hid RR
 replace RS:=hid RS
 replace Na:=hid Na
 replace Nx:=hid Nx
 replace Nb:=hid Nb
 replace Ny:=hid Ny
 replace HB:=hid HB
 rcases Decidable.em (q<p) with hlt | hlt
 · have d1:decide (c>0)=true:=dT_ (by rw [←ec.out];exact Bu.2 hlt)
   rw [if_pos hlt] at el eh
   subst el eh
   have hle:=hid (Rat.le_of_lt hlt)
   clear hlt ec
   have sl:=hid (show Aa' q≤34359738368 from nT tq.out (by omega))
   have sh:=hid (show Aa' p≤34359738368 from nT tp.out (by omega))
   have za:=Ab' Ra.out
   have zx:=Ab' Rx.out
   have zb:=Ab' Rb.out
   have zy:=Ab' Ry.out
   go_upto_region 4 with fail
   go_wp2_with fail
   refine wp_region_held_drew (S:=fun w'=>0≤w'.heap.size) (by kernel_rfl) (Nat.zero_le _) (fun hHeld=>?_)
   obtain ⟨m40,hm0⟩:=eX w6.drew
   have bd:Below w6.heap.size w6 m40:=by rw [hm0];exact ⟨rfl,rfl,rfl,nL _,fun _ _=>rfl⟩
   rw [←hm0] at hHeld ⊢
   clear hm0 za zx zb zy
   have Ra0:=hid (Ad' Ra.out bd)
   replace Na:=hid (Na.out.keep bd)
   have Rx0:=hid (Ad' Rx.out bd)
   replace Nx:=hid (Nx.out.keep bd)
   have Rb0:=hid (Ad' Rb.out bd)
   replace Nb:=hid (Nb.out.keep bd)
   have Ry0:=hid (Ad' Ry.out bd)
   replace Ny:=hid (Ny.out.keep bd)
   have RR0:=hid (Ad' RR.out bd)
   have RS0:=hid (Ad' RS.out bd)
   replace HB:=hid (chain HB.out bd)
   clear bd Ra Rx Rb Ry RR RS
   obtain ⟨m41,em41⟩:=eX ((((m40.setCell ⟨BA,0,none⟩ (.bool (decide (q.num<0)))).setCell ⟨BA,1,none⟩ (.slice C5 (Vx.len q.num.natAbs) j5)).setCell ⟨BA,2,none⟩ (.slice C6 (Vx.len (below q.den)) j6)))
   obtain ⟨Ra1,OT,LV,BL⟩:=A7' Ra0.out em41
   replace Ra1:=hid Ra1
   have Rx1:=hid (OT _ _ (by omega) Rx0.out)
   have Rb1:=hid (OT _ _ (by omega) Rb0.out)
   have Ry1:=hid (OT _ _ (by omega) Ry0.out)
   have RR1:=hid (OT _ _ (by omega) RR0.out)
   have RS1:=hid (OT _ _ (by omega) RS0.out)
   replace Na:=hid (LV.num Na.out)
   replace Nx:=hid (LV.rat Nx.out)
   replace Nb:=hid (LV.num Nb.out)
   replace Ny:=hid (LV.rat Ny.out)
   replace HB:=hid (BL _ _ (by omega) HB.out)
   clear OT LV BL
   replace em41:=hid em41
   obtain ⟨m42,em42⟩:=eX ((((m41.setCell ⟨BB,0,none⟩ (.bool (decide (p.num<0)))).setCell ⟨BB,1,none⟩ (.slice C1 (Vx.len p.num.natAbs) j1)).setCell ⟨BB,2,none⟩ (.slice C2 (Vx.len (below p.den)) j2)))
   obtain ⟨Rb2,OT,LV,BL⟩:=A7' Rb1.out em42
   replace Rb2:=hid Rb2
   have Ra2:=hid (OT _ _ (by omega) Ra1.out)
   have Rx2:=hid (OT _ _ (by omega) Rx1.out)
   have Ry2:=hid (OT _ _ (by omega) Ry1.out)
   have RR2:=hid (OT _ _ (by omega) RR1.out)
   have RS2:=hid (OT _ _ (by omega) RS1.out)
   replace Na:=hid (LV.num Na.out)
   replace Nx:=hid (LV.rat Nx.out)
   replace Nb:=hid (LV.num Nb.out)
   replace Ny:=hid (LV.rat Ny.out)
   replace HB:=hid (BL _ _ (by omega) HB.out)
   clear OT LV BL
   replace em42:=hid em42
   obtain ⟨m43,em43⟩:=eX ((((m42.setCell ⟨BX,0,none⟩ (.bool (decide (q.num<0)))).setCell ⟨BX,1,none⟩ (.slice C7 (len q.num.natAbs) j7)).setCell ⟨BX,2,none⟩ (.slice C8 (len q.den) j8)))
   obtain ⟨Rx3,OT,LV,BL⟩:=A7' Rx2.out em43
   replace Rx3:=hid Rx3
   have Ra3:=hid (OT _ _ (by omega) Ra2.out)
   have Rb3:=hid (OT _ _ (by omega) Rb2.out)
   have Ry3:=hid (OT _ _ (by omega) Ry2.out)
   have RR3:=hid (OT _ _ (by omega) RR2.out)
   have RS3:=hid (OT _ _ (by omega) RS2.out)
   replace Na:=hid (LV.num Na.out)
   replace Nx:=hid (LV.rat Nx.out)
   replace Nb:=hid (LV.num Nb.out)
   replace Ny:=hid (LV.rat Ny.out)
   replace HB:=hid (BL _ _ (by omega) HB.out)
   clear OT LV BL
   replace em43:=hid em43
   obtain ⟨m44,em44⟩:=eX ((((m43.setCell ⟨BY,0,none⟩ (.bool (decide (p.num<0)))).setCell ⟨BY,1,none⟩ (.slice C3 (len p.num.natAbs) j3)).setCell ⟨BY,2,none⟩ (.slice C4 (len p.den) j4)))
   obtain ⟨Ry4,OT,LV,BL⟩:=A7' Ry3.out em44
   replace Ry4:=hid Ry4
   have Ra4:=hid (OT _ _ (by omega) Ra3.out)
   have Rx4:=hid (OT _ _ (by omega) Rx3.out)
   have Rb4:=hid (OT _ _ (by omega) Rb3.out)
   have RR4:=hid (OT _ _ (by omega) RR3.out)
   have RS4:=hid (OT _ _ (by omega) RS3.out)
   replace Na:=hid (LV.num Na.out)
   replace Nx:=hid (LV.rat Nx.out)
   replace Nb:=hid (LV.num Nb.out)
   replace Ny:=hid (LV.rat Ny.out)
   replace HB:=hid (BL _ _ (by omega) HB.out)
   clear OT LV BL
   replace em44:=hid em44
   have zza0:=Ab' Ra0.out
   have zzx0:=Ab' Rx0.out
   have zzb0:=Ab' Rb0.out
   have zzy0:=Ab' Ry0.out
   have zza1:=Ab' Ra1.out
   have zzx1:=Ab' Rx1.out
   have zzb1:=Ab' Rb1.out
   have zzy1:=Ab' Ry1.out
   have zza2:=Ab' Ra2.out
   have zzx2:=Ab' Rx2.out
   have zzb2:=Ab' Rb2.out
   have zzy2:=Ab' Ry2.out
   generalize hF4:wpAnyH _ _ _ _ _=F4
   replace hF4:=hid hF4
   refine F0' ?_
   intro A4 hA4
   replace hA4:=hid hA4
   clear hHeld
   have st4_0123_4:F4 0 #[true,true,true,true,true,true,true,true] (Act.put (Act.put (Act.put (Act.put A4 (some 26) (.agg #[.bool (decide (q.num<0)),.slice C5 (Vx.len q.num.natAbs) j5,.slice C6 (Vx.len (below q.den)) j6])) (some 27) (.agg #[.bool (decide (p.num<0)),.slice C1 (Vx.len p.num.natAbs) j1,.slice C2 (Vx.len (below p.den)) j2])) (some 28) (.agg #[.bool (decide (q.num<0)),.slice C7 (len q.num.natAbs) j7,.slice C8 (len q.den) j8])) (some 29) (.agg #[.bool (decide (p.num<0)),.slice C3 (len p.num.natAbs) j3,.slice C4 (len p.den) j4])) m44:=by
    rw [←hF4.out,←hA4.out]
    try simp only [Act.put,lt,ly,lu]
    refine wpAnyH_done (by kernel_rfl) ?_ _
    clear zza0 zzx0 zzb0 zzy0 zza1 zzx1 zzb1 zzy1 zza2 zzx2 zzb2 zzy2 em41 em42 em43 em44 hF4 hA4
    obtain ⟨za0,za1,za2⟩:=Ab' Ra4.out
    obtain ⟨zb0,zb1,zb2⟩:=Ab' Rb4.out
    have HX:=hid (DM' Nb.out Na.out sl.out sh.out hle.out)
    go_wp2_with fail
    refine (HX.out).mono ?_
    rintro e w50 ⟨v50,rfl,hv50,b50⟩
    obtain ⟨C9,j9,C10,j10,C11,j11,C12,j12,rfl,-,-⟩:=id hv50.opened
    replace hv50:=hid hv50
    clear HX za0 za1 za2 zb0 zb1 zb2
    go_upto_region 6 with fail
    obtain ⟨w51,hw51⟩:=eX (w50.alloc (.cells #[.bool (decide (q.num<0)),.slice C9 (Vx.len q.num.natAbs) j9,.slice C10 (Vx.len (below q.den)) j10,.bool (decide (p.num<0)),.slice C11 (Vx.len p.num.natAbs) j11,.slice C12 (Vx.len (below p.den)) j12] 35))
    have b51:Below w50.heap.size w50 w51:=by rw [hw51];exact (Below.refl _ _).alloc (nL _) _
    have g51:w51.heap[w50.heap.size]?=some (.cells #[.bool (decide (q.num<0)),.slice C9 (Vx.len q.num.natAbs) j9,.slice C10 (Vx.len (below q.den)) j10,.bool (decide (p.num<0)),.slice C11 (Vx.len p.num.natAbs) j11,.slice C12 (Vx.len (below p.den)) j12] 35 (0,0)):=by rw [hw51];exact hA_ w50 _
    rw [←hw51]
    obtain ⟨BZ,hBZ⟩:=eY w50.heap.size
    rw [hBZ] at g51 ⊢
    have l5:BY<BZ:=by rw [←hBZ];exact at_lt (Ad' Ry4.out b50)
    clear hw51
    have bq:=chain b50 b51
    have Qx:=hid (Ad' Rx4.out bq)
    have Qy:=hid (Ad' Ry4.out bq)
    have QR:=hid (Ad' RR4.out bq)
    have QS:=hid (Ad' RS4.out bq)
    have Qz:=hid g51
    have VB:=hid (hv50.out.keep b51)
    have VR:=hid (Ah'.pair (Ny.out.keep bq) (Nx.out.keep bq))
    have HB2:=hid (chain HB.out bq)
    clear bq b50 b51 g51 hv50 hBZ
    obtain ⟨zx0,zx1,zx2⟩:=Ab' Qx.out
    obtain ⟨zy0,zy1,zy2⟩:=Ab' Qy.out
    obtain ⟨zz0,zz1,zz2,zz3,zz4,zz5⟩:=Ae' Qz.out
    go_wp2_with fail
    refine wp_region_held_drew (S:=(fun w'=>(w'.cell? ⟨BX,0,none⟩=w51.cell? ⟨BX,0,none⟩∧w'.cell? ⟨BX,1,none⟩=w51.cell? ⟨BX,1,none⟩∧w'.cell? ⟨BX,2,none⟩=w51.cell? ⟨BX,2,none⟩∧w'.cell? ⟨BY,0,none⟩=w51.cell? ⟨BY,0,none⟩∧w'.cell? ⟨BY,1,none⟩=w51.cell? ⟨BY,1,none⟩∧w'.cell? ⟨BY,2,none⟩=w51.cell? ⟨BY,2,none⟩∧w'.cell? ⟨BZ,0,none⟩=w51.cell? ⟨BZ,0,none⟩∧w'.cell? ⟨BZ,1,none⟩=w51.cell? ⟨BZ,1,none⟩∧w'.cell? ⟨BZ,2,none⟩=w51.cell? ⟨BZ,2,none⟩∧w'.cell? ⟨BZ,3,none⟩=w51.cell? ⟨BZ,3,none⟩∧w'.cell? ⟨BZ,4,none⟩=w51.cell? ⟨BZ,4,none⟩∧w'.cell? ⟨BZ,5,none⟩=w51.cell? ⟨BZ,5,none⟩))) (by kernel_rfl) ?_ (fun hHeld=>?_)
    · (try dsimp only)
      exact ⟨rfl,rfl,rfl,rfl,rfl,rfl,rfl,rfl,rfl,rfl,rfl,rfl⟩
    obtain ⟨u0,hu0⟩:=eX w51.drew
    have bd:Below w51.heap.size w51 u0:=by rw [hu0];exact ⟨rfl,rfl,rfl,nL _,fun _ _=>rfl⟩
    rw [←hu0] at hHeld ⊢
    clear hu0
    replace VB:=hid (VB.out.keep bd)
    replace VR:=hid (VR.out.keep bd)
    have DX:=hid (Ad' Qx.out bd)
    have DY:=hid (Ad' Qy.out bd)
    have DZ:=hid (Ad' Qz.out bd)
    have D1:=hid (Ad' QR.out bd)
    have D2:=hid (Ad' QS.out bd)
    replace HB2:=hid (chain HB2.out bd)
    clear bd QR QS
    refine tk (i:=0) (h:=?_)
    try simp only [Act.put,lt,ly,lu]
    refine tk (i:=1) (h:=?_)
    try simp only [Act.put,lt,ly,lu]
    refine tk (i:=2) (h:=?_)
    try simp only [Act.put,lt,ly,lu]
    refine tk (i:=3) (h:=?_)
    try simp only [Act.put,lt,ly,lu]
    refine rd (i:=4) (h:=fun K hK=>?_)
    have q0:u0.cell? ⟨w.heap.size+1,0,none⟩=some (.bool false):=cR _ _ _ _ _ _ D1.out
    have F0:u0.frozen? ⟨w.heap.size+1,0,none⟩=false:=fR u0 (w.heap.size+1) 0 _ _ D1.out
    have q1:u0.cell? ⟨w.heap.size+1,1,none⟩=some (.slice none 0 0):=cR _ _ _ _ _ _ D1.out
    have F1:u0.frozen? ⟨w.heap.size+1,1,none⟩=false:=fR u0 (w.heap.size+1) 1 _ _ D1.out
    have q2:u0.cell? ⟨w.heap.size+1,2,none⟩=some (.slice none 0 0):=cR _ _ _ _ _ _ D1.out
    have F2:u0.frozen? ⟨w.heap.size+1,2,none⟩=false:=fR u0 (w.heap.size+1) 2 _ _ D1.out
    have q3:u0.cell? ⟨w.heap.size+1,3,none⟩=some (.bool false):=cR _ _ _ _ _ _ D1.out
    have F3:u0.frozen? ⟨w.heap.size+1,3,none⟩=false:=fR u0 (w.heap.size+1) 3 _ _ D1.out
    have q4:u0.cell? ⟨w.heap.size+1,4,none⟩=some (.slice none 0 0):=cR _ _ _ _ _ _ D1.out
    have F4:u0.frozen? ⟨w.heap.size+1,4,none⟩=false:=fR u0 (w.heap.size+1) 4 _ _ D1.out
    have q5:u0.cell? ⟨w.heap.size+1,5,none⟩=some (.slice none 0 0):=cR _ _ _ _ _ _ D1.out
    have F5:u0.frozen? ⟨w.heap.size+1,5,none⟩=false:=fR u0 (w.heap.size+1) 5 _ _ D1.out
    go_simp
    clear q0 F0 q1 F1 q2 F2 q3 F3 q4 F4 q5 F5
    obtain ⟨u1,hw⟩:=eX (((((((u0.setCell ⟨w.heap.size+1,0,none⟩ (.bool (decide (q.num<0)))).setCell ⟨w.heap.size+1,1,none⟩ (.slice C9 (Vx.len q.num.natAbs) j9)).setCell ⟨w.heap.size+1,2,none⟩ (.slice C10 (Vx.len (below q.den)) j10)).setCell ⟨w.heap.size+1,3,none⟩ (.bool (decide (p.num<0)))).setCell ⟨w.heap.size+1,4,none⟩ (.slice C11 (Vx.len p.num.natAbs) j11)).setCell ⟨w.heap.size+1,5,none⟩ (.slice C12 (Vx.len (below p.den)) j12)))
    obtain ⟨E_u1,OT,LV,BL⟩:=AG' D1.out hw
    rw [←hw]
    clear hw
    replace E_u1:=hid E_u1
    replace D2:=hid (OT _ _ (by omega) D2.out)
    replace DX:=hid (OT _ _ (by omega) DX.out)
    replace DY:=hid (OT _ _ (by omega) DY.out)
    replace DZ:=hid (OT _ _ (by omega) DZ.out)
    replace HB2:=hid (BL _ _ (by omega) HB2.out)
    replace VB:=hid (LV.box VB.out)
    replace VR:=hid (LV.rbox VR.out)
    have QX:=Ab' DX.out
    have QX0:=Ab' Qx.out
    have QY:=Ab' DY.out
    have QY0:=Ab' Qy.out
    have QZ:=Ae' DZ.out
    have QZ0:=Ae' Qz.out
    refine hK.out _ _ ?_ (fun hHeld2=>?_)
    · (try dsimp only)
      exact ⟨QX.1.trans QX0.1.symm,QX.2.1.trans QX0.2.1.symm,QX.2.2.trans QX0.2.2.symm,QY.1.trans QY0.1.symm,QY.2.1.trans QY0.2.1.symm,QY.2.2.trans QY0.2.2.symm,QZ.1.trans QZ0.1.symm,QZ.2.1.trans QZ0.2.1.symm,QZ.2.2.1.trans QZ0.2.2.1.symm,QZ.2.2.2.1.trans QZ0.2.2.2.1.symm,QZ.2.2.2.2.1.trans QZ0.2.2.2.2.1.symm,QZ.2.2.2.2.2.trans QZ0.2.2.2.2.2.symm⟩
    clear hK K hHeld OT LV BL QX QX0 QY QY0 QZ QZ0
    try simp only [Act.put,lt,ly,lu]
    have hHeld:=hHeld2
    clear hHeld2
    refine rd (i:=5) (h:=fun K hK=>?_)
    have q0:u1.cell? ⟨w.heap.size+2,0,none⟩=some (.bool false):=cR _ _ _ _ _ _ D2.out
    have F0:u1.frozen? ⟨w.heap.size+2,0,none⟩=false:=fR u1 (w.heap.size+2) 0 _ _ D2.out
    have q1:u1.cell? ⟨w.heap.size+2,1,none⟩=some (.slice none 0 0):=cR _ _ _ _ _ _ D2.out
    have F1:u1.frozen? ⟨w.heap.size+2,1,none⟩=false:=fR u1 (w.heap.size+2) 1 _ _ D2.out
    have q2:u1.cell? ⟨w.heap.size+2,2,none⟩=some (.slice none 0 0):=cR _ _ _ _ _ _ D2.out
    have F2:u1.frozen? ⟨w.heap.size+2,2,none⟩=false:=fR u1 (w.heap.size+2) 2 _ _ D2.out
    have q3:u1.cell? ⟨w.heap.size+2,3,none⟩=some (.bool false):=cR _ _ _ _ _ _ D2.out
    have F3:u1.frozen? ⟨w.heap.size+2,3,none⟩=false:=fR u1 (w.heap.size+2) 3 _ _ D2.out
    have q4:u1.cell? ⟨w.heap.size+2,4,none⟩=some (.slice none 0 0):=cR _ _ _ _ _ _ D2.out
    have F4:u1.frozen? ⟨w.heap.size+2,4,none⟩=false:=fR u1 (w.heap.size+2) 4 _ _ D2.out
    have q5:u1.cell? ⟨w.heap.size+2,5,none⟩=some (.slice none 0 0):=cR _ _ _ _ _ _ D2.out
    have F5:u1.frozen? ⟨w.heap.size+2,5,none⟩=false:=fR u1 (w.heap.size+2) 5 _ _ D2.out
    go_simp
    clear q0 F0 q1 F1 q2 F2 q3 F3 q4 F4 q5 F5
    obtain ⟨u2,hw⟩:=eX (((((((u1.setCell ⟨w.heap.size+2,0,none⟩ (.bool (decide (q.num<0)))).setCell ⟨w.heap.size+2,1,none⟩ (.slice C7 (len q.num.natAbs) j7)).setCell ⟨w.heap.size+2,2,none⟩ (.slice C8 (len q.den) j8)).setCell ⟨w.heap.size+2,3,none⟩ (.bool (decide (p.num<0)))).setCell ⟨w.heap.size+2,4,none⟩ (.slice C3 (len p.num.natAbs) j3)).setCell ⟨w.heap.size+2,5,none⟩ (.slice C4 (len p.den) j4)))
    obtain ⟨E_u2,OT,LV,BL⟩:=AG' D2.out hw
    rw [←hw]
    clear hw
    replace E_u2:=hid E_u2
    replace E_u1:=hid (OT _ _ (by omega) E_u1.out)
    replace DX:=hid (OT _ _ (by omega) DX.out)
    replace DY:=hid (OT _ _ (by omega) DY.out)
    replace DZ:=hid (OT _ _ (by omega) DZ.out)
    replace HB2:=hid (BL _ _ (by omega) HB2.out)
    replace VB:=hid (LV.box VB.out)
    replace VR:=hid (LV.rbox VR.out)
    have QX:=Ab' DX.out
    have QX0:=Ab' Qx.out
    have QY:=Ab' DY.out
    have QY0:=Ab' Qy.out
    have QZ:=Ae' DZ.out
    have QZ0:=Ae' Qz.out
    refine hK.out _ _ ?_ (fun hHeld2=>?_)
    · (try dsimp only)
      exact ⟨QX.1.trans QX0.1.symm,QX.2.1.trans QX0.2.1.symm,QX.2.2.trans QX0.2.2.symm,QY.1.trans QY0.1.symm,QY.2.1.trans QY0.2.1.symm,QY.2.2.trans QY0.2.2.symm,QZ.1.trans QZ0.1.symm,QZ.2.1.trans QZ0.2.1.symm,QZ.2.2.1.trans QZ0.2.2.1.symm,QZ.2.2.2.1.trans QZ0.2.2.2.1.symm,QZ.2.2.2.2.1.trans QZ0.2.2.2.2.1.symm,QZ.2.2.2.2.2.trans QZ0.2.2.2.2.2.symm⟩
    clear hK K hHeld OT LV BL QX QX0 QY QY0 QZ QZ0
    try simp only [Act.put,lt,ly,lu]
    have hHeld:=hHeld2
    clear hHeld2
    refine wpAnyH_done (by kernel_rfl) ?_ _
    clear hHeld zx0 zx1 zx2 zy0 zy1 zy2 zz0 zz1 zz2 zz3 zz4 zz5
    obtain ⟨p0,p1,p2,p3,p4,p5⟩:=Ae' E_u1.out
    obtain ⟨r0,r1,r2,r3,r4,r5⟩:=Ae' E_u2.out
    go_wp2_with fail
    refine bP (v:=.tuple #[.agg #[.bool (decide (q.num<0)),.slice C9 (Vx.len q.num.natAbs) j9,.slice C10 (Vx.len (below q.den)) j10,.bool (decide (p.num<0)),.slice C11 (Vx.len p.num.natAbs) j11,.slice C12 (Vx.len (below p.den)) j12],.agg #[.bool (decide (q.num<0)),.slice C7 (len q.num.natAbs) j7,.slice C8 (len q.den) j8,.bool (decide (p.num<0)),.slice C3 (len p.num.natAbs) j3,.slice C4 (len p.den) j4]]) ?_ rfl ⟨_,_,rfl,VB.out,VR.out,HB2.out⟩
    simp [results,Tryz.results6,go_sem,p0,p1,p2,p3,p4,p5,r0,r1,r2,r3,r4,r5]
   try simp only [←hA4.out,Act.put,lt,ly,lu] at st4_0123_4
   replace st4_0123_4:=hid st4_0123_4
   have st4_0123_3:F4 1 #[true,true,true,true,true,true,true,false] (Act.put (Act.put (Act.put (Act.put A4 (some 26) (.agg #[.bool (decide (q.num<0)),.slice C5 (Vx.len q.num.natAbs) j5,.slice C6 (Vx.len (below q.den)) j6])) (some 27) (.agg #[.bool (decide (p.num<0)),.slice C1 (Vx.len p.num.natAbs) j1,.slice C2 (Vx.len (below p.den)) j2])) (some 28) (.agg #[.bool (decide (q.num<0)),.slice C7 (len q.num.natAbs) j7,.slice C8 (len q.den) j8])) (some 29) (.agg #[.bool (decide (p.num<0)),.slice C3 (len p.num.natAbs) j3,.slice C4 (len p.den) j4])) m43:=by
    rw [←hF4.out,←hA4.out]
    try simp only [Act.put,lt,ly,lu]
    refine wpAnyH_ready (rs:=[7]) (by kernel_rfl) (by simp) (AllReadyH.cons (o:=?o7q7) ?e7q7 ?k7q7 AllReadyH.nil)
    case e7q7=>simp only [lg,lz,ls] <;> rfl
    case k7q7 =>
     have q0:=cR _ _ 0 _ _ _ Ry3.out
     have F0:=fR m43 BY 0 _ _ Ry3.out
     have q1:=cR _ _ 1 _ _ _ Ry3.out
     have F1:=fR m43 BY 1 _ _ Ry3.out
     have q2:=cR _ _ 2 _ _ _ Ry3.out
     have F2:=fR m43 BY 2 _ _ Ry3.out
     simp only [lg,lz,ls] at q0 q1 q2
     intro K hK
     go_simp
     clear q0 F0 q1 F1 q2 F2
     rw [←em44.out]
     refine hK.out _ _ ?_ (fun hHeld=>?_)
     · (try dsimp only);exact Nat.zero_le _
     clear hK K;try simp only [Act.put,lt,ly,lu]
     rw [hF4.out]
     exact st4_0123_4.out
   try simp only [←hA4.out,Act.put,lt,ly,lu] at st4_0123_3
   replace st4_0123_3:=hid st4_0123_3
   have st4_0123_2:F4 2 #[true,true,true,true,true,true,false,false] (Act.put (Act.put (Act.put (Act.put A4 (some 26) (.agg #[.bool (decide (q.num<0)),.slice C5 (Vx.len q.num.natAbs) j5,.slice C6 (Vx.len (below q.den)) j6])) (some 27) (.agg #[.bool (decide (p.num<0)),.slice C1 (Vx.len p.num.natAbs) j1,.slice C2 (Vx.len (below p.den)) j2])) (some 28) (.agg #[.bool (decide (q.num<0)),.slice C7 (len q.num.natAbs) j7,.slice C8 (len q.den) j8])) (some 29) (.agg #[.bool (decide (p.num<0)),.slice C3 (len p.num.natAbs) j3,.slice C4 (len p.den) j4])) m42:=by
    rw [←hF4.out,←hA4.out]
    try simp only [Act.put,lt,ly,lu]
    refine wpAnyH_ready (rs:=[6]) (by kernel_rfl) (by simp) (AllReadyH.cons (o:=?o6q8) ?e6q8 ?k6q8 AllReadyH.nil)
    case e6q8=>simp only [lg,lz,ls] <;> rfl
    case k6q8 =>
     have q0:=cR _ _ 0 _ _ _ Rx2.out
     have F0:=fR m42 BX 0 _ _ Rx2.out
     have q1:=cR _ _ 1 _ _ _ Rx2.out
     have F1:=fR m42 BX 1 _ _ Rx2.out
     have q2:=cR _ _ 2 _ _ _ Rx2.out
     have F2:=fR m42 BX 2 _ _ Rx2.out
     simp only [lg,lz,ls] at q0 q1 q2
     intro K hK
     go_simp
     clear q0 F0 q1 F1 q2 F2
     rw [←em43.out]
     refine hK.out _ _ ?_ (fun hHeld=>?_)
     · (try dsimp only);exact Nat.zero_le _
     clear hK K;try simp only [Act.put,lt,ly,lu]
     rw [hF4.out]
     exact st4_0123_3.out
   try simp only [←hA4.out,Act.put,lt,ly,lu] at st4_0123_2
   replace st4_0123_2:=hid st4_0123_2
   have st4_0123_1:F4 3 #[true,true,true,true,true,false,false,false] (Act.put (Act.put (Act.put (Act.put A4 (some 26) (.agg #[.bool (decide (q.num<0)),.slice C5 (Vx.len q.num.natAbs) j5,.slice C6 (Vx.len (below q.den)) j6])) (some 27) (.agg #[.bool (decide (p.num<0)),.slice C1 (Vx.len p.num.natAbs) j1,.slice C2 (Vx.len (below p.den)) j2])) (some 28) (.agg #[.bool (decide (q.num<0)),.slice C7 (len q.num.natAbs) j7,.slice C8 (len q.den) j8])) (some 29) (.agg #[.bool (decide (p.num<0)),.slice C3 (len p.num.natAbs) j3,.slice C4 (len p.den) j4])) m41:=by
    rw [←hF4.out,←hA4.out]
    try simp only [Act.put,lt,ly,lu]
    refine wpAnyH_ready (rs:=[5]) (by kernel_rfl) (by simp) (AllReadyH.cons (o:=?o5q9) ?e5q9 ?k5q9 AllReadyH.nil)
    case e5q9=>simp only [lg,lz,ls] <;> rfl
    case k5q9 =>
     have q0:=cR _ _ 0 _ _ _ Rb1.out
     have F0:=fR m41 BB 0 _ _ Rb1.out
     have q1:=cR _ _ 1 _ _ _ Rb1.out
     have F1:=fR m41 BB 1 _ _ Rb1.out
     have q2:=cR _ _ 2 _ _ _ Rb1.out
     have F2:=fR m41 BB 2 _ _ Rb1.out
     simp only [lg,lz,ls] at q0 q1 q2
     intro K hK
     go_simp
     clear q0 F0 q1 F1 q2 F2
     rw [←em42.out]
     refine hK.out _ _ ?_ (fun hHeld=>?_)
     · (try dsimp only);exact Nat.zero_le _
     clear hK K;try simp only [Act.put,lt,ly,lu]
     rw [hF4.out]
     exact st4_0123_2.out
   try simp only [←hA4.out,Act.put,lt,ly,lu] at st4_0123_1
   replace st4_0123_1:=hid st4_0123_1
   have st4_0123_0:F4 4 #[true,true,true,true,false,false,false,false] (Act.put (Act.put (Act.put (Act.put A4 (some 26) (.agg #[.bool (decide (q.num<0)),.slice C5 (Vx.len q.num.natAbs) j5,.slice C6 (Vx.len (below q.den)) j6])) (some 27) (.agg #[.bool (decide (p.num<0)),.slice C1 (Vx.len p.num.natAbs) j1,.slice C2 (Vx.len (below p.den)) j2])) (some 28) (.agg #[.bool (decide (q.num<0)),.slice C7 (len q.num.natAbs) j7,.slice C8 (len q.den) j8])) (some 29) (.agg #[.bool (decide (p.num<0)),.slice C3 (len p.num.natAbs) j3,.slice C4 (len p.den) j4])) m40:=by
    rw [←hF4.out,←hA4.out]
    try simp only [Act.put,lt,ly,lu]
    refine wpAnyH_ready (rs:=[4]) (by kernel_rfl) (by simp) (AllReadyH.cons (o:=?o4q10) ?e4q10 ?k4q10 AllReadyH.nil)
    case e4q10=>simp only [lg,lz,ls] <;> rfl
    case k4q10 =>
     have q0:=cR _ _ 0 _ _ _ Ra0.out
     have F0:=fR m40 BA 0 _ _ Ra0.out
     have q1:=cR _ _ 1 _ _ _ Ra0.out
     have F1:=fR m40 BA 1 _ _ Ra0.out
     have q2:=cR _ _ 2 _ _ _ Ra0.out
     have F2:=fR m40 BA 2 _ _ Ra0.out
     simp only [lg,lz,ls] at q0 q1 q2
     intro K hK
     go_simp
     clear q0 F0 q1 F1 q2 F2
     rw [←em41.out]
     refine hK.out _ _ ?_ (fun hHeld=>?_)
     · (try dsimp only);exact Nat.zero_le _
     clear hK K;try simp only [Act.put,lt,ly,lu]
     rw [hF4.out]
     exact st4_0123_1.out
   try simp only [←hA4.out,Act.put,lt,ly,lu] at st4_0123_0
   replace st4_0123_0:=hid st4_0123_0
   have st4_012_0:F4 5 #[true,true,true,false,false,false,false,false] (Act.put (Act.put (Act.put A4 (some 26) (.agg #[.bool (decide (q.num<0)),.slice C5 (Vx.len q.num.natAbs) j5,.slice C6 (Vx.len (below q.den)) j6])) (some 27) (.agg #[.bool (decide (p.num<0)),.slice C1 (Vx.len p.num.natAbs) j1,.slice C2 (Vx.len (below p.den)) j2])) (some 28) (.agg #[.bool (decide (q.num<0)),.slice C7 (len q.num.natAbs) j7,.slice C8 (len q.den) j8])) m40:=by
    rw [←hF4.out,←hA4.out]
    try simp only [Act.put,lt,ly,lu]
    refine wpAnyH_ready (rs:=[3]) (by kernel_rfl) (by simp) (AllReadyH.cons (o:=?o3q11) ?e3q11 ?k3q11 AllReadyH.nil)
    case e3q11=>simp only [lg,lz,ls] <;> rfl
    case k3q11 =>
     intro K hK
     go_simp
     refine hK.out _ _ ?_ (fun hHeld=>?_)
     · (try dsimp only);exact Nat.zero_le _
     clear hK K;try simp only [Act.put,lt,ly,lu]
     rw [hF4.out]
     exact st4_0123_0.out
   try simp only [←hA4.out,Act.put,lt,ly,lu] at st4_012_0
   replace st4_012_0:=hid st4_012_0
   have st4_013_2:F4 3 #[true,true,false,true,true,true,false,false] (Act.put (Act.put (Act.put A4 (some 26) (.agg #[.bool (decide (q.num<0)),.slice C5 (Vx.len q.num.natAbs) j5,.slice C6 (Vx.len (below q.den)) j6])) (some 27) (.agg #[.bool (decide (p.num<0)),.slice C1 (Vx.len p.num.natAbs) j1,.slice C2 (Vx.len (below p.den)) j2])) (some 29) (.agg #[.bool (decide (p.num<0)),.slice C3 (len p.num.natAbs) j3,.slice C4 (len p.den) j4])) m42:=by
    rw [←hF4.out,←hA4.out]
    try simp only [Act.put,lt,ly,lu]
    refine wpAnyH_ready (rs:=[2]) (by kernel_rfl) (by simp) (AllReadyH.cons (o:=?o2q12) ?e2q12 ?k2q12 AllReadyH.nil)
    case e2q12=>simp only [lg,lz,ls] <;> rfl
    case k2q12 =>
     intro K hK
     go_simp
     refine hK.out _ _ ?_ (fun hHeld=>?_)
     · (try dsimp only);exact Nat.zero_le _
     clear hK K;try simp only [Act.put,lt,ly,lu]
     rw [hF4.out]
     exact st4_0123_2.out
   try simp only [←hA4.out,Act.put,lt,ly,lu] at st4_013_2
   replace st4_013_2:=hid st4_013_2
   have st4_013_1:F4 4 #[true,true,false,true,true,false,false,false] (Act.put (Act.put (Act.put A4 (some 26) (.agg #[.bool (decide (q.num<0)),.slice C5 (Vx.len q.num.natAbs) j5,.slice C6 (Vx.len (below q.den)) j6])) (some 27) (.agg #[.bool (decide (p.num<0)),.slice C1 (Vx.len p.num.natAbs) j1,.slice C2 (Vx.len (below p.den)) j2])) (some 29) (.agg #[.bool (decide (p.num<0)),.slice C3 (len p.num.natAbs) j3,.slice C4 (len p.den) j4])) m41:=by
    rw [←hF4.out,←hA4.out]
    try simp only [Act.put,lt,ly,lu]
    refine wpAnyH_ready (rs:=[2,5]) (by kernel_rfl) (by simp) (AllReadyH.cons (o:=?o2q13) ?e2q13 ?k2q13 (AllReadyH.cons (o:=?o5q13) ?e5q13 ?k5q13 AllReadyH.nil))
    case e2q13=>simp only [lg,lz,ls] <;> rfl
    case e5q13=>simp only [lg,lz,ls] <;> rfl
    case k2q13 =>
     intro K hK
     go_simp
     refine hK.out _ _ ?_ (fun hHeld=>?_)
     · (try dsimp only);exact Nat.zero_le _
     clear hK K;try simp only [Act.put,lt,ly,lu]
     rw [hF4.out]
     exact st4_0123_1.out
    case k5q13 =>
     have q0:=cR _ _ 0 _ _ _ Rb1.out
     have F0:=fR m41 BB 0 _ _ Rb1.out
     have q1:=cR _ _ 1 _ _ _ Rb1.out
     have F1:=fR m41 BB 1 _ _ Rb1.out
     have q2:=cR _ _ 2 _ _ _ Rb1.out
     have F2:=fR m41 BB 2 _ _ Rb1.out
     simp only [lg,lz,ls] at q0 q1 q2
     intro K hK
     go_simp
     clear q0 F0 q1 F1 q2 F2
     rw [←em42.out]
     refine hK.out _ _ ?_ (fun hHeld=>?_)
     · (try dsimp only);exact Nat.zero_le _
     clear hK K;try simp only [Act.put,lt,ly,lu]
     rw [hF4.out]
     exact st4_013_2.out
   try simp only [←hA4.out,Act.put,lt,ly,lu] at st4_013_1
   replace st4_013_1:=hid st4_013_1
   have st4_013_0:F4 5 #[true,true,false,true,false,false,false,false] (Act.put (Act.put (Act.put A4 (some 26) (.agg #[.bool (decide (q.num<0)),.slice C5 (Vx.len q.num.natAbs) j5,.slice C6 (Vx.len (below q.den)) j6])) (some 27) (.agg #[.bool (decide (p.num<0)),.slice C1 (Vx.len p.num.natAbs) j1,.slice C2 (Vx.len (below p.den)) j2])) (some 29) (.agg #[.bool (decide (p.num<0)),.slice C3 (len p.num.natAbs) j3,.slice C4 (len p.den) j4])) m40:=by
    rw [←hF4.out,←hA4.out]
    try simp only [Act.put,lt,ly,lu]
    refine wpAnyH_ready (rs:=[2,4]) (by kernel_rfl) (by simp) (AllReadyH.cons (o:=?o2q14) ?e2q14 ?k2q14 (AllReadyH.cons (o:=?o4q14) ?e4q14 ?k4q14 AllReadyH.nil))
    case e2q14=>simp only [lg,lz,ls] <;> rfl
    case e4q14=>simp only [lg,lz,ls] <;> rfl
    case k2q14 =>
     intro K hK
     go_simp
     refine hK.out _ _ ?_ (fun hHeld=>?_)
     · (try dsimp only);exact Nat.zero_le _
     clear hK K;try simp only [Act.put,lt,ly,lu]
     rw [hF4.out]
     exact st4_0123_0.out
    case k4q14 =>
     have q0:=cR _ _ 0 _ _ _ Ra0.out
     have F0:=fR m40 BA 0 _ _ Ra0.out
     have q1:=cR _ _ 1 _ _ _ Ra0.out
     have F1:=fR m40 BA 1 _ _ Ra0.out
     have q2:=cR _ _ 2 _ _ _ Ra0.out
     have F2:=fR m40 BA 2 _ _ Ra0.out
     simp only [lg,lz,ls] at q0 q1 q2
     intro K hK
     go_simp
     clear q0 F0 q1 F1 q2 F2
     rw [←em41.out]
     refine hK.out _ _ ?_ (fun hHeld=>?_)
     · (try dsimp only);exact Nat.zero_le _
     clear hK K;try simp only [Act.put,lt,ly,lu]
     rw [hF4.out]
     exact st4_013_1.out
   try simp only [←hA4.out,Act.put,lt,ly,lu] at st4_013_0
   replace st4_013_0:=hid st4_013_0
   have st4_01_0:F4 6 #[true,true,false,false,false,false,false,false] (Act.put (Act.put A4 (some 26) (.agg #[.bool (decide (q.num<0)),.slice C5 (Vx.len q.num.natAbs) j5,.slice C6 (Vx.len (below q.den)) j6])) (some 27) (.agg #[.bool (decide (p.num<0)),.slice C1 (Vx.len p.num.natAbs) j1,.slice C2 (Vx.len (below p.den)) j2])) m40:=by
    rw [←hF4.out,←hA4.out]
    try simp only [Act.put,lt,ly,lu]
    refine wpAnyH_ready (rs:=[2,3]) (by kernel_rfl) (by simp) (AllReadyH.cons (o:=?o2q15) ?e2q15 ?k2q15 (AllReadyH.cons (o:=?o3q15) ?e3q15 ?k3q15 AllReadyH.nil))
    case e2q15=>simp only [lg,lz,ls] <;> rfl
    case e3q15=>simp only [lg,lz,ls] <;> rfl
    case k2q15 =>
     intro K hK
     go_simp
     refine hK.out _ _ ?_ (fun hHeld=>?_)
     · (try dsimp only);exact Nat.zero_le _
     clear hK K;try simp only [Act.put,lt,ly,lu]
     rw [hF4.out]
     exact st4_012_0.out
    case k3q15 =>
     intro K hK
     go_simp
     refine hK.out _ _ ?_ (fun hHeld=>?_)
     · (try dsimp only);exact Nat.zero_le _
     clear hK K;try simp only [Act.put,lt,ly,lu]
     rw [hF4.out]
     exact st4_013_0.out
   try simp only [←hA4.out,Act.put,lt,ly,lu] at st4_01_0
   replace st4_01_0:=hid st4_01_0
   have st4_023_0:F4 5 #[true,false,true,true,false,false,false,false] (Act.put (Act.put (Act.put A4 (some 26) (.agg #[.bool (decide (q.num<0)),.slice C5 (Vx.len q.num.natAbs) j5,.slice C6 (Vx.len (below q.den)) j6])) (some 28) (.agg #[.bool (decide (q.num<0)),.slice C7 (len q.num.natAbs) j7,.slice C8 (len q.den) j8])) (some 29) (.agg #[.bool (decide (p.num<0)),.slice C3 (len p.num.natAbs) j3,.slice C4 (len p.den) j4])) m40:=by
    rw [←hF4.out,←hA4.out]
    try simp only [Act.put,lt,ly,lu]
    refine wpAnyH_ready (rs:=[1]) (by kernel_rfl) (by simp) (AllReadyH.cons (o:=?o1q16) ?e1q16 ?k1q16 AllReadyH.nil)
    case e1q16=>simp only [lg,lz,ls] <;> rfl
    case k1q16 =>
     intro K hK
     go_simp
     refine hK.out _ _ ?_ (fun hHeld=>?_)
     · (try dsimp only);exact Nat.zero_le _
     clear hK K;try simp only [Act.put,lt,ly,lu]
     rw [hF4.out]
     exact st4_0123_0.out
   try simp only [←hA4.out,Act.put,lt,ly,lu] at st4_023_0
   replace st4_023_0:=hid st4_023_0
   have st4_02_0:F4 6 #[true,false,true,false,false,false,false,false] (Act.put (Act.put A4 (some 26) (.agg #[.bool (decide (q.num<0)),.slice C5 (Vx.len q.num.natAbs) j5,.slice C6 (Vx.len (below q.den)) j6])) (some 28) (.agg #[.bool (decide (q.num<0)),.slice C7 (len q.num.natAbs) j7,.slice C8 (len q.den) j8])) m40:=by
    rw [←hF4.out,←hA4.out]
    try simp only [Act.put,lt,ly,lu]
    refine wpAnyH_ready (rs:=[1,3]) (by kernel_rfl) (by simp) (AllReadyH.cons (o:=?o1q17) ?e1q17 ?k1q17 (AllReadyH.cons (o:=?o3q17) ?e3q17 ?k3q17 AllReadyH.nil))
    case e1q17=>simp only [lg,lz,ls] <;> rfl
    case e3q17=>simp only [lg,lz,ls] <;> rfl
    case k1q17 =>
     intro K hK
     go_simp
     refine hK.out _ _ ?_ (fun hHeld=>?_)
     · (try dsimp only);exact Nat.zero_le _
     clear hK K;try simp only [Act.put,lt,ly,lu]
     rw [hF4.out]
     exact st4_012_0.out
    case k3q17 =>
     intro K hK
     go_simp
     refine hK.out _ _ ?_ (fun hHeld=>?_)
     · (try dsimp only);exact Nat.zero_le _
     clear hK K;try simp only [Act.put,lt,ly,lu]
     rw [hF4.out]
     exact st4_023_0.out
   try simp only [←hA4.out,Act.put,lt,ly,lu] at st4_02_0
   replace st4_02_0:=hid st4_02_0
   have st4_03_0:F4 6 #[true,false,false,true,false,false,false,false] (Act.put (Act.put A4 (some 26) (.agg #[.bool (decide (q.num<0)),.slice C5 (Vx.len q.num.natAbs) j5,.slice C6 (Vx.len (below q.den)) j6])) (some 29) (.agg #[.bool (decide (p.num<0)),.slice C3 (len p.num.natAbs) j3,.slice C4 (len p.den) j4])) m40:=by
    rw [←hF4.out,←hA4.out]
    try simp only [Act.put,lt,ly,lu]
    refine wpAnyH_ready (rs:=[1,2]) (by kernel_rfl) (by simp) (AllReadyH.cons (o:=?o1q18) ?e1q18 ?k1q18 (AllReadyH.cons (o:=?o2q18) ?e2q18 ?k2q18 AllReadyH.nil))
    case e1q18=>simp only [lg,lz,ls] <;> rfl
    case e2q18=>simp only [lg,lz,ls] <;> rfl
    case k1q18 =>
     intro K hK
     go_simp
     refine hK.out _ _ ?_ (fun hHeld=>?_)
     · (try dsimp only);exact Nat.zero_le _
     clear hK K;try simp only [Act.put,lt,ly,lu]
     rw [hF4.out]
     exact st4_013_0.out
    case k2q18 =>
     intro K hK
     go_simp
     refine hK.out _ _ ?_ (fun hHeld=>?_)
     · (try dsimp only);exact Nat.zero_le _
     clear hK K;try simp only [Act.put,lt,ly,lu]
     rw [hF4.out]
     exact st4_023_0.out
   try simp only [←hA4.out,Act.put,lt,ly,lu] at st4_03_0
   replace st4_03_0:=hid st4_03_0
   have st4_0_0:F4 7 #[true,false,false,false,false,false,false,false] (Act.put A4 (some 26) (.agg #[.bool (decide (q.num<0)),.slice C5 (Vx.len q.num.natAbs) j5,.slice C6 (Vx.len (below q.den)) j6])) m40:=by
    rw [←hF4.out,←hA4.out]
    try simp only [Act.put,lt,ly,lu]
    refine wpAnyH_ready (rs:=[1,2,3]) (by kernel_rfl) (by simp) (AllReadyH.cons (o:=?o1q19) ?e1q19 ?k1q19 (AllReadyH.cons (o:=?o2q19) ?e2q19 ?k2q19 (AllReadyH.cons (o:=?o3q19) ?e3q19 ?k3q19 AllReadyH.nil)))
    case e1q19=>simp only [lg,lz,ls] <;> rfl
    case e2q19=>simp only [lg,lz,ls] <;> rfl
    case e3q19=>simp only [lg,lz,ls] <;> rfl
    case k1q19 =>
     intro K hK
     go_simp
     refine hK.out _ _ ?_ (fun hHeld=>?_)
     · (try dsimp only);exact Nat.zero_le _
     clear hK K;try simp only [Act.put,lt,ly,lu]
     rw [hF4.out]
     exact st4_01_0.out
    case k2q19 =>
     intro K hK
     go_simp
     refine hK.out _ _ ?_ (fun hHeld=>?_)
     · (try dsimp only);exact Nat.zero_le _
     clear hK K;try simp only [Act.put,lt,ly,lu]
     rw [hF4.out]
     exact st4_02_0.out
    case k3q19 =>
     intro K hK
     go_simp
     refine hK.out _ _ ?_ (fun hHeld=>?_)
     · (try dsimp only);exact Nat.zero_le _
     clear hK K;try simp only [Act.put,lt,ly,lu]
     rw [hF4.out]
     exact st4_03_0.out
   try simp only [←hA4.out,Act.put,lt,ly,lu] at st4_0_0
   replace st4_0_0:=hid st4_0_0
   have st4_123_0:F4 5 #[false,true,true,true,false,false,false,false] (Act.put (Act.put (Act.put A4 (some 27) (.agg #[.bool (decide (p.num<0)),.slice C1 (Vx.len p.num.natAbs) j1,.slice C2 (Vx.len (below p.den)) j2])) (some 28) (.agg #[.bool (decide (q.num<0)),.slice C7 (len q.num.natAbs) j7,.slice C8 (len q.den) j8])) (some 29) (.agg #[.bool (decide (p.num<0)),.slice C3 (len p.num.natAbs) j3,.slice C4 (len p.den) j4])) m40:=by
    rw [←hF4.out,←hA4.out]
    try simp only [Act.put,lt,ly,lu]
    refine wpAnyH_ready (rs:=[0]) (by kernel_rfl) (by simp) (AllReadyH.cons (o:=?o0q20) ?e0q20 ?k0q20 AllReadyH.nil)
    case e0q20=>simp only [lg,lz,ls] <;> rfl
    case k0q20 =>
     intro K hK
     go_simp
     refine hK.out _ _ ?_ (fun hHeld=>?_)
     · (try dsimp only);exact Nat.zero_le _
     clear hK K;try simp only [Act.put,lt,ly,lu]
     rw [hF4.out]
     exact st4_0123_0.out
   try simp only [←hA4.out,Act.put,lt,ly,lu] at st4_123_0
   replace st4_123_0:=hid st4_123_0
   have st4_12_0:F4 6 #[false,true,true,false,false,false,false,false] (Act.put (Act.put A4 (some 27) (.agg #[.bool (decide (p.num<0)),.slice C1 (Vx.len p.num.natAbs) j1,.slice C2 (Vx.len (below p.den)) j2])) (some 28) (.agg #[.bool (decide (q.num<0)),.slice C7 (len q.num.natAbs) j7,.slice C8 (len q.den) j8])) m40:=by
    rw [←hF4.out,←hA4.out]
    try simp only [Act.put,lt,ly,lu]
    refine wpAnyH_ready (rs:=[0,3]) (by kernel_rfl) (by simp) (AllReadyH.cons (o:=?o0q21) ?e0q21 ?k0q21 (AllReadyH.cons (o:=?o3q21) ?e3q21 ?k3q21 AllReadyH.nil))
    case e0q21=>simp only [lg,lz,ls] <;> rfl
    case e3q21=>simp only [lg,lz,ls] <;> rfl
    case k0q21 =>
     intro K hK
     go_simp
     refine hK.out _ _ ?_ (fun hHeld=>?_)
     · (try dsimp only);exact Nat.zero_le _
     clear hK K;try simp only [Act.put,lt,ly,lu]
     rw [hF4.out]
     exact st4_012_0.out
    case k3q21 =>
     intro K hK
     go_simp
     refine hK.out _ _ ?_ (fun hHeld=>?_)
     · (try dsimp only);exact Nat.zero_le _
     clear hK K;try simp only [Act.put,lt,ly,lu]
     rw [hF4.out]
     exact st4_123_0.out
   try simp only [←hA4.out,Act.put,lt,ly,lu] at st4_12_0
   replace st4_12_0:=hid st4_12_0
   have st4_13_0:F4 6 #[false,true,false,true,false,false,false,false] (Act.put (Act.put A4 (some 27) (.agg #[.bool (decide (p.num<0)),.slice C1 (Vx.len p.num.natAbs) j1,.slice C2 (Vx.len (below p.den)) j2])) (some 29) (.agg #[.bool (decide (p.num<0)),.slice C3 (len p.num.natAbs) j3,.slice C4 (len p.den) j4])) m40:=by
    rw [←hF4.out,←hA4.out]
    try simp only [Act.put,lt,ly,lu]
    refine wpAnyH_ready (rs:=[0,2]) (by kernel_rfl) (by simp) (AllReadyH.cons (o:=?o0q22) ?e0q22 ?k0q22 (AllReadyH.cons (o:=?o2q22) ?e2q22 ?k2q22 AllReadyH.nil))
    case e0q22=>simp only [lg,lz,ls] <;> rfl
    case e2q22=>simp only [lg,lz,ls] <;> rfl
    case k0q22 =>
     intro K hK
     go_simp
     refine hK.out _ _ ?_ (fun hHeld=>?_)
     · (try dsimp only);exact Nat.zero_le _
     clear hK K;try simp only [Act.put,lt,ly,lu]
     rw [hF4.out]
     exact st4_013_0.out
    case k2q22 =>
     intro K hK
     go_simp
     refine hK.out _ _ ?_ (fun hHeld=>?_)
     · (try dsimp only);exact Nat.zero_le _
     clear hK K;try simp only [Act.put,lt,ly,lu]
     rw [hF4.out]
     exact st4_123_0.out
   try simp only [←hA4.out,Act.put,lt,ly,lu] at st4_13_0
   replace st4_13_0:=hid st4_13_0
   have st4_1_0:F4 7 #[false,true,false,false,false,false,false,false] (Act.put A4 (some 27) (.agg #[.bool (decide (p.num<0)),.slice C1 (Vx.len p.num.natAbs) j1,.slice C2 (Vx.len (below p.den)) j2])) m40:=by
    rw [←hF4.out,←hA4.out]
    try simp only [Act.put,lt,ly,lu]
    refine wpAnyH_ready (rs:=[0,2,3]) (by kernel_rfl) (by simp) (AllReadyH.cons (o:=?o0q23) ?e0q23 ?k0q23 (AllReadyH.cons (o:=?o2q23) ?e2q23 ?k2q23 (AllReadyH.cons (o:=?o3q23) ?e3q23 ?k3q23 AllReadyH.nil)))
    case e0q23=>simp only [lg,lz,ls] <;> rfl
    case e2q23=>simp only [lg,lz,ls] <;> rfl
    case e3q23=>simp only [lg,lz,ls] <;> rfl
    case k0q23 =>
     intro K hK
     go_simp
     refine hK.out _ _ ?_ (fun hHeld=>?_)
     · (try dsimp only);exact Nat.zero_le _
     clear hK K;try simp only [Act.put,lt,ly,lu]
     rw [hF4.out]
     exact st4_01_0.out
    case k2q23 =>
     intro K hK
     go_simp
     refine hK.out _ _ ?_ (fun hHeld=>?_)
     · (try dsimp only);exact Nat.zero_le _
     clear hK K;try simp only [Act.put,lt,ly,lu]
     rw [hF4.out]
     exact st4_12_0.out
    case k3q23 =>
     intro K hK
     go_simp
     refine hK.out _ _ ?_ (fun hHeld=>?_)
     · (try dsimp only);exact Nat.zero_le _
     clear hK K;try simp only [Act.put,lt,ly,lu]
     rw [hF4.out]
     exact st4_13_0.out
   try simp only [←hA4.out,Act.put,lt,ly,lu] at st4_1_0
   replace st4_1_0:=hid st4_1_0
   have st4_23_0:F4 6 #[false,false,true,true,false,false,false,false] (Act.put (Act.put A4 (some 28) (.agg #[.bool (decide (q.num<0)),.slice C7 (len q.num.natAbs) j7,.slice C8 (len q.den) j8])) (some 29) (.agg #[.bool (decide (p.num<0)),.slice C3 (len p.num.natAbs) j3,.slice C4 (len p.den) j4])) m40:=by
    rw [←hF4.out,←hA4.out]
    try simp only [Act.put,lt,ly,lu]
    refine wpAnyH_ready (rs:=[0,1]) (by kernel_rfl) (by simp) (AllReadyH.cons (o:=?o0q24) ?e0q24 ?k0q24 (AllReadyH.cons (o:=?o1q24) ?e1q24 ?k1q24 AllReadyH.nil))
    case e0q24=>simp only [lg,lz,ls] <;> rfl
    case e1q24=>simp only [lg,lz,ls] <;> rfl
    case k0q24 =>
     intro K hK
     go_simp
     refine hK.out _ _ ?_ (fun hHeld=>?_)
     · (try dsimp only);exact Nat.zero_le _
     clear hK K;try simp only [Act.put,lt,ly,lu]
     rw [hF4.out]
     exact st4_023_0.out
    case k1q24 =>
     intro K hK
     go_simp
     refine hK.out _ _ ?_ (fun hHeld=>?_)
     · (try dsimp only);exact Nat.zero_le _
     clear hK K;try simp only [Act.put,lt,ly,lu]
     rw [hF4.out]
     exact st4_123_0.out
   try simp only [←hA4.out,Act.put,lt,ly,lu] at st4_23_0
   replace st4_23_0:=hid st4_23_0
   have st4_2_0:F4 7 #[false,false,true,false,false,false,false,false] (Act.put A4 (some 28) (.agg #[.bool (decide (q.num<0)),.slice C7 (len q.num.natAbs) j7,.slice C8 (len q.den) j8])) m40:=by
    rw [←hF4.out,←hA4.out]
    try simp only [Act.put,lt,ly,lu]
    refine wpAnyH_ready (rs:=[0,1,3]) (by kernel_rfl) (by simp) (AllReadyH.cons (o:=?o0q25) ?e0q25 ?k0q25 (AllReadyH.cons (o:=?o1q25) ?e1q25 ?k1q25 (AllReadyH.cons (o:=?o3q25) ?e3q25 ?k3q25 AllReadyH.nil)))
    case e0q25=>simp only [lg,lz,ls] <;> rfl
    case e1q25=>simp only [lg,lz,ls] <;> rfl
    case e3q25=>simp only [lg,lz,ls] <;> rfl
    case k0q25 =>
     intro K hK
     go_simp
     refine hK.out _ _ ?_ (fun hHeld=>?_)
     · (try dsimp only);exact Nat.zero_le _
     clear hK K;try simp only [Act.put,lt,ly,lu]
     rw [hF4.out]
     exact st4_02_0.out
    case k1q25 =>
     intro K hK
     go_simp
     refine hK.out _ _ ?_ (fun hHeld=>?_)
     · (try dsimp only);exact Nat.zero_le _
     clear hK K;try simp only [Act.put,lt,ly,lu]
     rw [hF4.out]
     exact st4_12_0.out
    case k3q25 =>
     intro K hK
     go_simp
     refine hK.out _ _ ?_ (fun hHeld=>?_)
     · (try dsimp only);exact Nat.zero_le _
     clear hK K;try simp only [Act.put,lt,ly,lu]
     rw [hF4.out]
     exact st4_23_0.out
   try simp only [←hA4.out,Act.put,lt,ly,lu] at st4_2_0
   replace st4_2_0:=hid st4_2_0
   have st4_3_0:F4 7 #[false,false,false,true,false,false,false,false] (Act.put A4 (some 29) (.agg #[.bool (decide (p.num<0)),.slice C3 (len p.num.natAbs) j3,.slice C4 (len p.den) j4])) m40:=by
    rw [←hF4.out,←hA4.out]
    try simp only [Act.put,lt,ly,lu]
    refine wpAnyH_ready (rs:=[0,1,2]) (by kernel_rfl) (by simp) (AllReadyH.cons (o:=?o0q26) ?e0q26 ?k0q26 (AllReadyH.cons (o:=?o1q26) ?e1q26 ?k1q26 (AllReadyH.cons (o:=?o2q26) ?e2q26 ?k2q26 AllReadyH.nil)))
    case e0q26=>simp only [lg,lz,ls] <;> rfl
    case e1q26=>simp only [lg,lz,ls] <;> rfl
    case e2q26=>simp only [lg,lz,ls] <;> rfl
    case k0q26 =>
     intro K hK
     go_simp
     refine hK.out _ _ ?_ (fun hHeld=>?_)
     · (try dsimp only);exact Nat.zero_le _
     clear hK K;try simp only [Act.put,lt,ly,lu]
     rw [hF4.out]
     exact st4_03_0.out
    case k1q26 =>
     intro K hK
     go_simp
     refine hK.out _ _ ?_ (fun hHeld=>?_)
     · (try dsimp only);exact Nat.zero_le _
     clear hK K;try simp only [Act.put,lt,ly,lu]
     rw [hF4.out]
     exact st4_13_0.out
    case k2q26 =>
     intro K hK
     go_simp
     refine hK.out _ _ ?_ (fun hHeld=>?_)
     · (try dsimp only);exact Nat.zero_le _
     clear hK K;try simp only [Act.put,lt,ly,lu]
     rw [hF4.out]
     exact st4_23_0.out
   try simp only [←hA4.out,Act.put,lt,ly,lu] at st4_3_0
   replace st4_3_0:=hid st4_3_0
   have st4_n_0:F4 8 #[false,false,false,false,false,false,false,false] A4 m40:=by
    rw [←hF4.out,←hA4.out]
    try simp only [Act.put,lt,ly,lu]
    refine wpAnyH_ready (rs:=[0,1,2,3]) (by kernel_rfl) (by simp) (AllReadyH.cons (o:=?o0q27) ?e0q27 ?k0q27 (AllReadyH.cons (o:=?o1q27) ?e1q27 ?k1q27 (AllReadyH.cons (o:=?o2q27) ?e2q27 ?k2q27 (AllReadyH.cons (o:=?o3q27) ?e3q27 ?k3q27 AllReadyH.nil))))
    case e0q27=>simp only [lg,lz,ls] <;> rfl
    case e1q27=>simp only [lg,lz,ls] <;> rfl
    case e2q27=>simp only [lg,lz,ls] <;> rfl
    case e3q27=>simp only [lg,lz,ls] <;> rfl
    case k0q27 =>
     intro K hK
     go_simp
     refine hK.out _ _ ?_ (fun hHeld=>?_)
     · (try dsimp only);exact Nat.zero_le _
     clear hK K;try simp only [Act.put,lt,ly,lu]
     rw [hF4.out]
     exact st4_0_0.out
    case k1q27 =>
     intro K hK
     go_simp
     refine hK.out _ _ ?_ (fun hHeld=>?_)
     · (try dsimp only);exact Nat.zero_le _
     clear hK K;try simp only [Act.put,lt,ly,lu]
     rw [hF4.out]
     exact st4_1_0.out
    case k2q27 =>
     intro K hK
     go_simp
     refine hK.out _ _ ?_ (fun hHeld=>?_)
     · (try dsimp only);exact Nat.zero_le _
     clear hK K;try simp only [Act.put,lt,ly,lu]
     rw [hF4.out]
     exact st4_2_0.out
    case k3q27 =>
     intro K hK
     go_simp
     refine hK.out _ _ ?_ (fun hHeld=>?_)
     · (try dsimp only);exact Nat.zero_le _
     clear hK K;try simp only [Act.put,lt,ly,lu]
     rw [hF4.out]
     exact st4_3_0.out
   try simp only [←hA4.out,Act.put,lt,ly,lu] at st4_n_0
   replace st4_n_0:=hid st4_n_0
   have HA:=hA4.out
   subst HA
   exact st4_n_0.out
 · have d1:decide (c>0)=false:=dF_ (by rw [←ec.out];exact fun k=>hlt (Bu.1 k))
   rw [if_neg hlt] at el eh
   subst el eh
   have hle:=hid (Rat.not_lt.1 hlt)
   clear hlt ec
   have sl:=hid (show Aa' p≤34359738368 from nT tp.out (by omega))
   have sh:=hid (show Aa' q≤34359738368 from nT tq.out (by omega))
   obtain ⟨za0,za1,za2⟩:=Ab' Ra.out
   obtain ⟨zb0,zb1,zb2⟩:=Ab' Rb.out
   have HX:=hid (DM' Na.out Nb.out sl.out sh.out hle.out)
   go_wp2_with fail
   refine (HX.out).mono ?_
   rintro e w50 ⟨v50,rfl,hv50,b50⟩
   obtain ⟨C9,j9,C10,j10,C11,j11,C12,j12,rfl,-,-⟩:=id hv50.opened
   replace hv50:=hid hv50
   clear HX za0 za1 za2 zb0 zb1 zb2
   go_upto_region 6 with fail
   obtain ⟨w51,hw51⟩:=eX (w50.alloc (.cells #[.bool (decide (p.num<0)),.slice C9 (Vx.len p.num.natAbs) j9,.slice C10 (Vx.len (below p.den)) j10,.bool (decide (q.num<0)),.slice C11 (Vx.len q.num.natAbs) j11,.slice C12 (Vx.len (below q.den)) j12] 35))
   have b51:Below w50.heap.size w50 w51:=by rw [hw51];exact (Below.refl _ _).alloc (nL _) _
   have g51:w51.heap[w50.heap.size]?=some (.cells #[.bool (decide (p.num<0)),.slice C9 (Vx.len p.num.natAbs) j9,.slice C10 (Vx.len (below p.den)) j10,.bool (decide (q.num<0)),.slice C11 (Vx.len q.num.natAbs) j11,.slice C12 (Vx.len (below q.den)) j12] 35 (0,0)):=by rw [hw51];exact hA_ w50 _
   rw [←hw51]
   obtain ⟨BZ,hBZ⟩:=eY w50.heap.size
   rw [hBZ] at g51 ⊢
   have l5:BY<BZ:=by rw [←hBZ];exact at_lt (Ad' Ry.out b50)
   clear hw51
   have bq:=chain b50 b51
   have Qx:=hid (Ad' Rx.out bq)
   have Qy:=hid (Ad' Ry.out bq)
   have QR:=hid (Ad' RR.out bq)
   have QS:=hid (Ad' RS.out bq)
   have Qz:=hid g51
   have VB:=hid (hv50.out.keep b51)
   have VR:=hid (Ah'.pair (Nx.out.keep bq) (Ny.out.keep bq))
   have HB2:=hid (chain HB.out bq)
   clear bq b50 b51 g51 hv50 hBZ
   obtain ⟨zx0,zx1,zx2⟩:=Ab' Qx.out
   obtain ⟨zy0,zy1,zy2⟩:=Ab' Qy.out
   obtain ⟨zz0,zz1,zz2,zz3,zz4,zz5⟩:=Ae' Qz.out
   go_wp2_with fail
   refine wp_region_held_drew (S:=(fun w'=>(w'.cell? ⟨BX,0,none⟩=w51.cell? ⟨BX,0,none⟩∧w'.cell? ⟨BX,1,none⟩=w51.cell? ⟨BX,1,none⟩∧w'.cell? ⟨BX,2,none⟩=w51.cell? ⟨BX,2,none⟩∧w'.cell? ⟨BY,0,none⟩=w51.cell? ⟨BY,0,none⟩∧w'.cell? ⟨BY,1,none⟩=w51.cell? ⟨BY,1,none⟩∧w'.cell? ⟨BY,2,none⟩=w51.cell? ⟨BY,2,none⟩∧w'.cell? ⟨BZ,0,none⟩=w51.cell? ⟨BZ,0,none⟩∧w'.cell? ⟨BZ,1,none⟩=w51.cell? ⟨BZ,1,none⟩∧w'.cell? ⟨BZ,2,none⟩=w51.cell? ⟨BZ,2,none⟩∧w'.cell? ⟨BZ,3,none⟩=w51.cell? ⟨BZ,3,none⟩∧w'.cell? ⟨BZ,4,none⟩=w51.cell? ⟨BZ,4,none⟩∧w'.cell? ⟨BZ,5,none⟩=w51.cell? ⟨BZ,5,none⟩))) (by kernel_rfl) ?_ (fun hHeld=>?_)
   · (try dsimp only)
     exact ⟨rfl,rfl,rfl,rfl,rfl,rfl,rfl,rfl,rfl,rfl,rfl,rfl⟩
   obtain ⟨u0,hu0⟩:=eX w51.drew
   have bd:Below w51.heap.size w51 u0:=by rw [hu0];exact ⟨rfl,rfl,rfl,nL _,fun _ _=>rfl⟩
   rw [←hu0] at hHeld ⊢
   clear hu0
   replace VB:=hid (VB.out.keep bd)
   replace VR:=hid (VR.out.keep bd)
   have DX:=hid (Ad' Qx.out bd)
   have DY:=hid (Ad' Qy.out bd)
   have DZ:=hid (Ad' Qz.out bd)
   have D1:=hid (Ad' QR.out bd)
   have D2:=hid (Ad' QS.out bd)
   replace HB2:=hid (chain HB2.out bd)
   clear bd QR QS
   refine tk (i:=0) (h:=?_)
   try simp only [Act.put,lt,ly,lu]
   refine tk (i:=1) (h:=?_)
   try simp only [Act.put,lt,ly,lu]
   refine tk (i:=2) (h:=?_)
   try simp only [Act.put,lt,ly,lu]
   refine tk (i:=3) (h:=?_)
   try simp only [Act.put,lt,ly,lu]
   refine rd (i:=4) (h:=fun K hK=>?_)
   have q0:u0.cell? ⟨w.heap.size+1,0,none⟩=some (.bool false):=cR _ _ _ _ _ _ D1.out
   have F0:u0.frozen? ⟨w.heap.size+1,0,none⟩=false:=fR u0 (w.heap.size+1) 0 _ _ D1.out
   have q1:u0.cell? ⟨w.heap.size+1,1,none⟩=some (.slice none 0 0):=cR _ _ _ _ _ _ D1.out
   have F1:u0.frozen? ⟨w.heap.size+1,1,none⟩=false:=fR u0 (w.heap.size+1) 1 _ _ D1.out
   have q2:u0.cell? ⟨w.heap.size+1,2,none⟩=some (.slice none 0 0):=cR _ _ _ _ _ _ D1.out
   have F2:u0.frozen? ⟨w.heap.size+1,2,none⟩=false:=fR u0 (w.heap.size+1) 2 _ _ D1.out
   have q3:u0.cell? ⟨w.heap.size+1,3,none⟩=some (.bool false):=cR _ _ _ _ _ _ D1.out
   have F3:u0.frozen? ⟨w.heap.size+1,3,none⟩=false:=fR u0 (w.heap.size+1) 3 _ _ D1.out
   have q4:u0.cell? ⟨w.heap.size+1,4,none⟩=some (.slice none 0 0):=cR _ _ _ _ _ _ D1.out
   have F4:u0.frozen? ⟨w.heap.size+1,4,none⟩=false:=fR u0 (w.heap.size+1) 4 _ _ D1.out
   have q5:u0.cell? ⟨w.heap.size+1,5,none⟩=some (.slice none 0 0):=cR _ _ _ _ _ _ D1.out
   have F5:u0.frozen? ⟨w.heap.size+1,5,none⟩=false:=fR u0 (w.heap.size+1) 5 _ _ D1.out
   go_simp
   clear q0 F0 q1 F1 q2 F2 q3 F3 q4 F4 q5 F5
   obtain ⟨u1,hw⟩:=eX (((((((u0.setCell ⟨w.heap.size+1,0,none⟩ (.bool (decide (p.num<0)))).setCell ⟨w.heap.size+1,1,none⟩ (.slice C9 (Vx.len p.num.natAbs) j9)).setCell ⟨w.heap.size+1,2,none⟩ (.slice C10 (Vx.len (below p.den)) j10)).setCell ⟨w.heap.size+1,3,none⟩ (.bool (decide (q.num<0)))).setCell ⟨w.heap.size+1,4,none⟩ (.slice C11 (Vx.len q.num.natAbs) j11)).setCell ⟨w.heap.size+1,5,none⟩ (.slice C12 (Vx.len (below q.den)) j12)))
   obtain ⟨E_u1,OT,LV,BL⟩:=AG' D1.out hw
   rw [←hw]
   clear hw
   replace E_u1:=hid E_u1
   replace D2:=hid (OT _ _ (by omega) D2.out)
   replace DX:=hid (OT _ _ (by omega) DX.out)
   replace DY:=hid (OT _ _ (by omega) DY.out)
   replace DZ:=hid (OT _ _ (by omega) DZ.out)
   replace HB2:=hid (BL _ _ (by omega) HB2.out)
   replace VB:=hid (LV.box VB.out)
   replace VR:=hid (LV.rbox VR.out)
   have QX:=Ab' DX.out
   have QX0:=Ab' Qx.out
   have QY:=Ab' DY.out
   have QY0:=Ab' Qy.out
   have QZ:=Ae' DZ.out
   have QZ0:=Ae' Qz.out
   refine hK.out _ _ ?_ (fun hHeld2=>?_)
   · (try dsimp only)
     exact ⟨QX.1.trans QX0.1.symm,QX.2.1.trans QX0.2.1.symm,QX.2.2.trans QX0.2.2.symm,QY.1.trans QY0.1.symm,QY.2.1.trans QY0.2.1.symm,QY.2.2.trans QY0.2.2.symm,QZ.1.trans QZ0.1.symm,QZ.2.1.trans QZ0.2.1.symm,QZ.2.2.1.trans QZ0.2.2.1.symm,QZ.2.2.2.1.trans QZ0.2.2.2.1.symm,QZ.2.2.2.2.1.trans QZ0.2.2.2.2.1.symm,QZ.2.2.2.2.2.trans QZ0.2.2.2.2.2.symm⟩
   clear hK K hHeld OT LV BL QX QX0 QY QY0 QZ QZ0
   try simp only [Act.put,lt,ly,lu]
   have hHeld:=hHeld2
   clear hHeld2
   refine rd (i:=5) (h:=fun K hK=>?_)
   have q0:u1.cell? ⟨w.heap.size+2,0,none⟩=some (.bool false):=cR _ _ _ _ _ _ D2.out
   have F0:u1.frozen? ⟨w.heap.size+2,0,none⟩=false:=fR u1 (w.heap.size+2) 0 _ _ D2.out
   have q1:u1.cell? ⟨w.heap.size+2,1,none⟩=some (.slice none 0 0):=cR _ _ _ _ _ _ D2.out
   have F1:u1.frozen? ⟨w.heap.size+2,1,none⟩=false:=fR u1 (w.heap.size+2) 1 _ _ D2.out
   have q2:u1.cell? ⟨w.heap.size+2,2,none⟩=some (.slice none 0 0):=cR _ _ _ _ _ _ D2.out
   have F2:u1.frozen? ⟨w.heap.size+2,2,none⟩=false:=fR u1 (w.heap.size+2) 2 _ _ D2.out
   have q3:u1.cell? ⟨w.heap.size+2,3,none⟩=some (.bool false):=cR _ _ _ _ _ _ D2.out
   have F3:u1.frozen? ⟨w.heap.size+2,3,none⟩=false:=fR u1 (w.heap.size+2) 3 _ _ D2.out
   have q4:u1.cell? ⟨w.heap.size+2,4,none⟩=some (.slice none 0 0):=cR _ _ _ _ _ _ D2.out
   have F4:u1.frozen? ⟨w.heap.size+2,4,none⟩=false:=fR u1 (w.heap.size+2) 4 _ _ D2.out
   have q5:u1.cell? ⟨w.heap.size+2,5,none⟩=some (.slice none 0 0):=cR _ _ _ _ _ _ D2.out
   have F5:u1.frozen? ⟨w.heap.size+2,5,none⟩=false:=fR u1 (w.heap.size+2) 5 _ _ D2.out
   go_simp
   clear q0 F0 q1 F1 q2 F2 q3 F3 q4 F4 q5 F5
   obtain ⟨u2,hw⟩:=eX (((((((u1.setCell ⟨w.heap.size+2,0,none⟩ (.bool (decide (p.num<0)))).setCell ⟨w.heap.size+2,1,none⟩ (.slice C3 (len p.num.natAbs) j3)).setCell ⟨w.heap.size+2,2,none⟩ (.slice C4 (len p.den) j4)).setCell ⟨w.heap.size+2,3,none⟩ (.bool (decide (q.num<0)))).setCell ⟨w.heap.size+2,4,none⟩ (.slice C7 (len q.num.natAbs) j7)).setCell ⟨w.heap.size+2,5,none⟩ (.slice C8 (len q.den) j8)))
   obtain ⟨E_u2,OT,LV,BL⟩:=AG' D2.out hw
   rw [←hw]
   clear hw
   replace E_u2:=hid E_u2
   replace E_u1:=hid (OT _ _ (by omega) E_u1.out)
   replace DX:=hid (OT _ _ (by omega) DX.out)
   replace DY:=hid (OT _ _ (by omega) DY.out)
   replace DZ:=hid (OT _ _ (by omega) DZ.out)
   replace HB2:=hid (BL _ _ (by omega) HB2.out)
   replace VB:=hid (LV.box VB.out)
   replace VR:=hid (LV.rbox VR.out)
   have QX:=Ab' DX.out
   have QX0:=Ab' Qx.out
   have QY:=Ab' DY.out
   have QY0:=Ab' Qy.out
   have QZ:=Ae' DZ.out
   have QZ0:=Ae' Qz.out
   refine hK.out _ _ ?_ (fun hHeld2=>?_)
   · (try dsimp only)
     exact ⟨QX.1.trans QX0.1.symm,QX.2.1.trans QX0.2.1.symm,QX.2.2.trans QX0.2.2.symm,QY.1.trans QY0.1.symm,QY.2.1.trans QY0.2.1.symm,QY.2.2.trans QY0.2.2.symm,QZ.1.trans QZ0.1.symm,QZ.2.1.trans QZ0.2.1.symm,QZ.2.2.1.trans QZ0.2.2.1.symm,QZ.2.2.2.1.trans QZ0.2.2.2.1.symm,QZ.2.2.2.2.1.trans QZ0.2.2.2.2.1.symm,QZ.2.2.2.2.2.trans QZ0.2.2.2.2.2.symm⟩
   clear hK K hHeld OT LV BL QX QX0 QY QY0 QZ QZ0
   try simp only [Act.put,lt,ly,lu]
   have hHeld:=hHeld2
   clear hHeld2
   refine wpAnyH_done (by kernel_rfl) ?_ _
   clear hHeld zx0 zx1 zx2 zy0 zy1 zy2 zz0 zz1 zz2 zz3 zz4 zz5
   obtain ⟨p0,p1,p2,p3,p4,p5⟩:=Ae' E_u1.out
   obtain ⟨r0,r1,r2,r3,r4,r5⟩:=Ae' E_u2.out
   go_wp2_with fail
   refine bP (v:=.tuple #[.agg #[.bool (decide (p.num<0)),.slice C9 (Vx.len p.num.natAbs) j9,.slice C10 (Vx.len (below p.den)) j10,.bool (decide (q.num<0)),.slice C11 (Vx.len q.num.natAbs) j11,.slice C12 (Vx.len (below q.den)) j12],.agg #[.bool (decide (p.num<0)),.slice C3 (len p.num.natAbs) j3,.slice C4 (len p.den) j4,.bool (decide (q.num<0)),.slice C7 (len q.num.natAbs) j7,.slice C8 (len q.den) j8]]) ?_ rfl ⟨_,_,rfl,VB.out,VR.out,HB2.out⟩
   simp [results,Tryz.results6,go_sem,p0,p1,p2,p3,p4,p5,r0,r1,r2,r3,r4,r5]
end Go.Proofs.YtbigkkjnhcpgiaaGreatDoor.Rf
