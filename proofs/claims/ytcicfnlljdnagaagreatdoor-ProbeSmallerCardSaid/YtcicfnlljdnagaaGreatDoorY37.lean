/-
  Contracts of the functions that the law calls, for every input (Qp Qt).
-/
import Derived.Test.YtcicfnlljdnagaaGreatDoorY00
import Derived.Test.YtcicfnlljdnagaaGreatDoorY34
import Derived.Test.YtcicfnlljdnagaaGreatDoorY36
import Derived.Test.YtcicfnlljdnagaaGreatDoorY31
set_option linter.all false
set_option maxRecDepth 100000
set_option maxHeartbeats 40000000
namespace Go.Proofs.YtcicfnlljdnagaaGreatDoor.Rf
open Lib (hid)
open Go.RowKit
open Rx
open Vx (Ab' Ah Ah')
open List renaming getElem?_toArray → lg, getElem?_cons_zero → lz, getElem?_cons_succ → ls, setIfInBounds_toArray → lt, set_cons_zero → ly, set_cons_succ → lu
def FS' (w:World) (ox:Obj) (x:Rat) (P k:Nat) (wr:World):Prop :=
  wr.heap[w.heap.size]?=some ox∧wr.heap[w.heap.size+1]?=some (.cells #[.bool false,.slice none 0 0,.slice none 0 0] 32 (0,0))∧(∃ A1 c1 B1 d1,wr.heap[P]?=some (.cells #[.bool (decide ((x^k).num<0)),.slice A1 (Vx.len (x^k).num.natAbs) c1,.slice B1 (Vx.len (below (x^k).den)) d1] 32 (0,0))∧Ad' wr (.agg #[.bool (decide ((x^k).num<0)),.slice A1 (Vx.len (x^k).num.natAbs) c1,.slice B1 (Vx.len (below (x^k).den)) d1]) (x^k))∧Below w.heap.size w wr
theorem EV' (x:Rat) (k:Nat):Ab' (x^k)≤Ab' x*k+3:=by
 induction k with
 | zero=>rw [Rat.pow_zero];exact nT (show Ab' 1≤3 by decide) (by omega)
 | succ k ih =>
   rw [Rat.pow_succ]
   have:=Vx.A9 (x^k) x
   rw [Nat.mul_succ]
   omega
theorem CB {w:World} {vx:Value} {x y:Rat} {n:Nat} (hx:Ad' w vx x) (hn:n≤200) (sx:Ab' x≤1000000) (er:x^n=y) :
   Calls Tryz.prog 76 #[vx,.int .i64 ((n:Nat):Int)] w (Ao' w y):=by
 obtain ⟨o,eo⟩:=eY (((1:Int):Rat):Rat)
 have e0:x^0=o:=by rw [←eo,Rat.pow_zero];rfl
 have kx:Ab' x≤536870912:=by omega
 replace eo:=hid eo
 replace e0:=hid e0
 replace sx:=hid sx
 replace kx:=hid kx
 replace er:=hid er
 obtain ⟨C1,j1,C2,j2,rfl,-,-⟩:=id hx.opened
 replace hx:=hid hx
 obtain ⟨w1,hw1⟩:=eX (((w.alloc (.cells #[.bool (decide (x.num<0)),.slice C1 (Vx.len x.num.natAbs) j1,.slice C2 (Vx.len (below x.den)) j2] 32)).alloc (.cells #[.bool false,.slice none 0 0,.slice none 0 0] 32)))
 obtain ⟨b1,g1,g2⟩:=AA' hw1
 replace g1:=hid g1
 replace g2:=hid g2
 replace b1:=hid b1
 go_enter Tryz.func76,Tryz.ntmps76
 go_upto_region 1 with fail
 rw [←hw1]
 clear hw1
 have HX:=hid (Ay' (w:=w1) eo.out (by omega) (by omega))
 go_wp2_with fail
 refine (HX.out).mono ?_
 rintro e w2 ⟨v2,rfl,hv2,b2⟩
 obtain ⟨C3,j3,C4,j4,rfl,-,-⟩:=id hv2.opened
 replace hv2:=hid hv2
 replace b2:=hid b2
 clear HX
 go_upto_region 2 with fail
 obtain ⟨w3,hw3⟩:=eX (w2.alloc (.cells #[.bool (decide (o.num<0)),.slice C3 (Vx.len o.num.natAbs) j3,.slice C4 (Vx.len (below o.den)) j4] 32))
 have b3:=hid (Ar hw3)
 have L3:=hid (At' hw3)
 rw [←hw3]
 clear hw3
 have y1_3:=hid (bS b2.out b3.out)
 have y0_3:=hid (bS (bS b1.out b2.out) b3.out)
 obtain ⟨P,hP⟩:=eY w2.heap.size
 have hPl:w.heap.size+1<P:=by rw [←hP];exact Af' (Ac' g2.out b2.out)
 have LP:=L3.out
 rw [hP] at LP ⊢
 have HE:Hid (FS' w (.cells #[.bool (decide (x.num<0)),.slice C1 (Vx.len x.num.natAbs) j1,.slice C2 (Vx.len (below x.den)) j2] 32 (0,0)) x P 0 w3):=hid ⟨Ac' g1.out y1_3.out,Ac' g2.out y1_3.out,⟨C3,j3,C4,j4,by rw [e0.out];exact LP,by rw [e0.out];exact (hv2.out.keep b3.out)⟩,y0_3.out⟩
 clear LP hP L3 hv2 g1 g2 b1 b2 b3 eo e0
 go_wp2_with fail
 go_loopw [8] (fun iv wr=>∃ k:Nat,k≤n∧iv=.int .i64 ((k:Nat):Int)∧Hid (FS' w (.cells #[.bool (decide (x.num<0)),.slice C1 (Vx.len x.num.natAbs) j1,.slice C2 (Vx.len (below x.den)) j2] 32 (0,0)) x P k wr)) (fun iv _=>n - (intOf iv).toNat)
 case atStart=>exact ⟨0,Nat.zero_le _,rfl,HE⟩
 case round =>
   obtain ⟨k,hk,rfl,hrel⟩:=hrel
   clear HE
   obtain ⟨gx,gR,⟨A1,c1,B1,d1,gP,hP⟩,HB⟩:=hrel.out
   clear hrel
   rcases Nat.lt_or_ge k n with hkn | hkn
   · have hin:decide (k<n)=true:=dT_ hkn
     obtain ⟨q,eq⟩:=eY (x^k)
     obtain ⟨m,em⟩:=eY (q*x)
     have e2:Hid (x^(k+1)=m):=hid (by rw [Rat.pow_succ,eq];exact em)
     have sq:Ab' q≤536870912:=by
       rw [←eq]
       have h1:=EV' x k
       have h2:Ab' x*k≤Ab' x*200:=mL _ (by omega)
       have h3:=sx.out
       omega
     rw [eq] at gP hP
     obtain ⟨y0,y1,y2⟩:=Ae gP
     obtain ⟨z0,z1,z2⟩:=Ae gx
     have HX:=hid (B7' em hP (hx.out.keep HB) sq kx.out)
     replace gx:=hid gx
     replace gR:=hid gR
     replace gP:=hid gP
     replace HB:=hid HB
     have hwk:IntKind.i64.wrap (((k:Nat):Int)+1)=((k:Nat):Int)+1:=by
       unfold IntKind.wrap
       simp [IntKind.bits,IntKind.signed]
       omega
     clear hP eq em
     go_wp2_with fail
     refine (HX.out).mono ?_
     rintro e w91 ⟨v91,rfl,hv91,b91⟩
     obtain ⟨A2,c2,B2,d2,rfl,-,-⟩:=id hv91.opened
     replace hv91:=hid hv91
     have DB:=Ac' gP.out b91
     obtain ⟨q0,q1,q2⟩:=Ae DB
     have F0:=fR w91 P 0 _ _ DB
     have F1:=fR w91 P 1 _ _ DB
     have F2:=fR w91 P 2 _ _ DB
     obtain ⟨ue,hw⟩:=eX ((((w91.setCell ⟨P,0,none⟩ (.bool (decide (m.num<0)))).setCell ⟨P,1,none⟩ (.slice A2 (Vx.len m.num.natAbs) c2)).setCell ⟨P,2,none⟩ (.slice B2 (Vx.len (below m.den)) d2)))
     obtain ⟨E,OT,LV,BL⟩:=As' DB hw
     have FIN:Hid (FS' w (.cells #[.bool (decide (x.num<0)),.slice C1 (Vx.len x.num.natAbs) j1,.slice C2 (Vx.len (below x.den)) j2] 32 (0,0)) x P (k+1) ue):=hid ⟨OT _ _ (by omega) (Ac' gx.out b91),OT _ _ (by omega) (Ac' gR.out b91),⟨A2,c2,B2,d2,by rw [e2.out];exact E,by rw [e2.out];exact LV.num hv91.out⟩,BL _ _ (by omega) (Ae' HB.out b91)⟩
     replace hw:=hid hw
     clear HX DB E OT LV BL b91 gx gR gP HB hv91 y0 y1 y2 z0 z1 z2
     go_wp2_with fail
     rw [←hw.out]
     go_roundw
     case rel=>exact ⟨k+1,hkn,by go_num,FIN⟩
     case measure=>simp [intOf];omega
   · obtain rfl:k=n:=Nat.le_antisymm hk hkn
     have hin:decide (k<k)=false:=dF_ (Nat.lt_irrefl _)
     rw [er.out] at gP hP
     obtain ⟨y0,y1,y2⟩:=Ae gP
     obtain ⟨q0,q1,q2⟩:=Ae gR
     have F0:=fR wr (w.heap.size+1) 0 _ _ gR
     have F1:=fR wr (w.heap.size+1) 1 _ _ gR
     have F2:=fR wr (w.heap.size+1) 2 _ _ gR
     obtain ⟨ue,hw⟩:=eX ((((wr.setCell ⟨(w.heap.size+1),0,none⟩ (.bool (decide (y.num<0)))).setCell ⟨(w.heap.size+1),1,none⟩ (.slice A1 (Vx.len y.num.natAbs) c1)).setCell ⟨(w.heap.size+1),2,none⟩ (.slice B1 (Vx.len (below y.den)) d1)))
     obtain ⟨E,-,LV,BL⟩:=As' gR hw
     have FE:=hid (LV.num hP)
     have FB:=hid (BL _ _ (by omega) HB)
     replace E:=hid E
     replace hw:=hid hw
     clear gx gR gP hP HB LV BL
     go_wp2_with fail
     rw [←hw.out]
     obtain ⟨r0,r1,r2⟩:=Ae E.out
     refine bP (v:=.agg #[.bool (decide (y.num<0)),.slice A1 (Vx.len y.num.natAbs) c1,.slice B1 (Vx.len (below y.den)) d1]) ?_ rfl ⟨_,rfl,FE.out,FB.out⟩
     simp [results,Tryz.results76,go_sem,r0,r1,r2]
theorem Cd {w:World} {vx:Value} {a b r x m lo hi:Rat} {mp pp:Nat} {A7 B7 P1 P2 P3 Q1 Q2 Q3:Option Addr} {c7 d7 p1 p2 p3 q1 q2 q3:Nat} (hx:Ad' w vx x) (hm:w.heap[mp]?=some (.cells #[.bool (decide (m.num<0)),.slice A7 (Vx.len m.num.natAbs) c7,.slice B7 (Vx.len (below m.den)) d7] 32 (0,0))) (hmn:Ad' w (.agg #[.bool (decide (m.num<0)),.slice A7 (Vx.len m.num.natAbs) c7,.slice B7 (Vx.len (below m.den)) d7]) m) (hp:w.heap[pp]?=some (.cells #[.bool (decide (a.num<0)),.slice P1 (Vx.len a.num.natAbs) p1,.slice Q1 (Vx.len (below a.den)) q1,.bool (decide (b.num<0)),.slice P2 (Vx.len b.num.natAbs) p2,.slice Q2 (Vx.len (below b.den)) q2,.bool (decide (r.num<0)),.slice P3 (Vx.len r.num.natAbs) p3,.slice Q3 (Vx.len (below r.den)) q3] 71 (0,0))) (hpn:Ad' w (.agg #[.bool (decide (r.num<0)),.slice P3 (Vx.len r.num.natAbs) p3,.slice Q3 (Vx.len (below r.den)) q3]) r) (sx:Ab' x≤1000000) (sm:Ab' m≤1000000) (sr:Ab' r≤1000000) (h0:0≤r) (elo:x - m - r=lo) (ehi:x - m+r=hi) :
   Calls Tryz.prog 73 #[vx,.pointer (some ⟨mp,0,none⟩),.pointer (some ⟨pp,0,none⟩)] w (AQ w lo hi):=by
 obtain ⟨s,es⟩:=eY (x - m:Rat)
 have ss:Ab' s≤4000000:=by rw [←es];have:=Vx.AF' x m;omega
 have kx:Ab' x≤536870912:=by omega
 have km:Ab' m≤536870912:=by omega
 have kr:Ab' r≤4000000:=by omega
 have hml:=Af' hm
 have hpl:=Af' hp
 have el:s - r=lo:=by rw [←elo,es]
 have eh:s+r=hi:=by rw [←ehi,es]
 clear elo ehi
 replace es:=hid es
 replace ss:=hid ss
 replace kx:=hid kx
 replace km:=hid km
 replace kr:=hid kr
 replace hm:=hid hm
 replace hp:=hid hp
 replace hmn:=hid hmn
 replace hpn:=hid hpn
 replace el:=hid el
 replace eh:=hid eh
 replace h0:=hid h0
 obtain ⟨C1,j1,C2,j2,rfl,-,-⟩:=id hx.opened
 replace hx:=hid hx
 obtain ⟨w1,hw1⟩:=eX (((w.alloc (.cells #[.bool (decide (x.num<0)),.slice C1 (Vx.len x.num.natAbs) j1,.slice C2 (Vx.len (below x.den)) j2] 32)).alloc (.cells #[.bool false,.slice none 0 0,.slice none 0 0,.bool false,.slice none 0 0,.slice none 0 0] 34)))
 obtain ⟨b1,g1,g2⟩:=AA' hw1
 replace g1:=hid g1
 replace g2:=hid g2
 replace b1:=hid b1
 go_enter Tryz.func73,Tryz.ntmps73
 go_upto_region 1 with fail
 rw [←hw1]
 clear hw1
 go_wp2_with fail
 have HSZa:Hid ((w.heap.size+1)≤w1.heap.size):=hid (by have:=Af' g2.out;omega)
 obtain ⟨z_x_0,z_x_1,z_x_2⟩:=Ae g1.out
 have hlta_x:w.heap.size<(w.heap.size+1):=by omega
 obtain ⟨z_m_0,z_m_1,z_m_2⟩:=Ae (Ac' hm.out b1.out)
 have hlta_m:mp<(w.heap.size+1):=by omega
 have hg:w1.heap[pp]?=some (.cells #[.bool (decide (a.num<0)),.slice P1 (Vx.len a.num.natAbs) p1,.slice Q1 (Vx.len (below a.den)) q1,.bool (decide (b.num<0)),.slice P2 (Vx.len b.num.natAbs) p2,.slice Q2 (Vx.len (below b.den)) q2,.bool (decide (r.num<0)),.slice P3 (Vx.len r.num.natAbs) p3,.slice Q3 (Vx.len (below r.den)) q3] 71 (0,0)):=(b1.out.block _ (gE.1 hp.out).1).trans hp.out
 have z_p_0:w1.cell? ⟨pp,0,none⟩=some (.bool (decide (a.num<0))):=cR _ _ _ _ _ _ hg
 have z_p_1:w1.cell? ⟨pp,1,none⟩=some (.slice P1 (Vx.len a.num.natAbs) p1):=cR _ _ _ _ _ _ hg
 have z_p_2:w1.cell? ⟨pp,2,none⟩=some (.slice Q1 (Vx.len (below a.den)) q1):=cR _ _ _ _ _ _ hg
 have z_p_3:w1.cell? ⟨pp,3,none⟩=some (.bool (decide (b.num<0))):=cR _ _ _ _ _ _ hg
 have z_p_4:w1.cell? ⟨pp,4,none⟩=some (.slice P2 (Vx.len b.num.natAbs) p2):=cR _ _ _ _ _ _ hg
 have z_p_5:w1.cell? ⟨pp,5,none⟩=some (.slice Q2 (Vx.len (below b.den)) q2):=cR _ _ _ _ _ _ hg
 have z_p_6:w1.cell? ⟨pp,6,none⟩=some (.bool (decide (r.num<0))):=cR _ _ _ _ _ _ hg
 have z_p_7:w1.cell? ⟨pp,7,none⟩=some (.slice P3 (Vx.len r.num.natAbs) p3):=cR _ _ _ _ _ _ hg
 have z_p_8:w1.cell? ⟨pp,8,none⟩=some (.slice Q3 (Vx.len (below r.den)) q3):=cR _ _ _ _ _ _ hg
 clear hg
 have hlta_p:pp<(w.heap.size+1):=by omega
 have H0:=Ag'.start w1 (w.heap.size+1)
 have H0':=H0
 unfold Ag' at H0'
 refine wp_region_held_drew (S:=(fun w'=>(∀ b o,b<(w.heap.size+1)→w'.cell? ⟨b,o,none⟩=w1.cell? ⟨b,o,none⟩)∧Below ((w.heap.size+1)) w1 w'∧Aj' w1 w')) (by kernel_rfl) ?_ (fun hHeld=>?_)
 · (try dsimp only)
   exact H0'
 obtain ⟨w2,hw2⟩:=eX w1.drew
 have b2:Hid (Below w1.heap.size w1 w2):=by rw [hw2];exact ⟨rfl,rfl,rfl,nL _,fun _ _=>rfl⟩
 rw [←hw2] at hHeld H0 ⊢
 clear hw2 H0'
 refine tk (i:=0) (h:=?_)
 try simp only [Act.put,lt,ly,lu]
 refine tk (i:=1) (h:=?_)
 try simp only [Act.put,lt,ly,lu]
 refine tk (i:=3) (h:=?_)
 try simp only [Act.put,lt,ly,lu]
 refine tk (i:=4) (h:=?_)
 try simp only [Act.put,lt,ly,lu]
 have y0_2:=hid (bS b1.out b2.out)
 refine rd (i:=2) (h:=fun K hK=>?_);go_simp;go_at_call 10
 refine (A9' es.out (hx.out.keep y0_2.out) (hmn.out.keep y0_2.out) kx.out km.out).mono ?_
 rintro e w3 ⟨v3,rfl,hv3,b3⟩
 obtain ⟨C3,j3,C4,j4,rfl,-,-⟩:=id hv3.opened
 replace hv3:=hid hv3
 replace b3:=hid b3
 have hk3:=Aw' H0 HSZa b3.out;clear hHeld H0
 refine hK.out _ _ (by (try dsimp only);with_reducible exact hun hk3) (fun hHeld=>?_)
 clear hK K;try simp only [Act.put,lt,ly,lu]
 have y0_3:=hid (bS y0_2.out b3.out)
 refine rd (i:=5) (h:=fun K hK=>?_);go_simp;go_at_call 74
 refine ((show Calls _ _ _ _ (AQ _ lo hi) from el.out ▸ eh.out ▸ CW hv3.out (hpn.out.keep y0_3.out) ss.out kr.out h0.out)).mono ?_
 rintro e w4 ⟨v4,rfl,hv4,b4⟩
 obtain ⟨C5,j5,C6,j6,C7,j7,C8,j8,rfl,-,-,-,-⟩:=id hv4.opened
 replace hv4:=hid hv4
 replace b4:=hid b4
 have hk4:=Aw' hk3 HSZa b4.out;clear hHeld hk3
 refine hK.out _ _ (by (try dsimp only);with_reducible exact hun hk4) (fun hHeld=>?_)
 clear hK K;try simp only [Act.put,lt,ly,lu]
 have y1_4:=hid (bS (bS b2.out b3.out) b4.out)
 have Dq7:=(Ac' g2.out y1_4.out)
 refine rd (i:=6) (h:=fun K hK=>?_)
 have q0:w4.cell? ⟨w.heap.size+1,0,none⟩=some (.bool false):=cR _ _ _ _ _ _ Dq7
 have F0:w4.frozen? ⟨w.heap.size+1,0,none⟩=false:=fR w4 (w.heap.size+1) 0 _ _ Dq7
 have q1:w4.cell? ⟨w.heap.size+1,1,none⟩=some (.slice none 0 0):=cR _ _ _ _ _ _ Dq7
 have F1:w4.frozen? ⟨w.heap.size+1,1,none⟩=false:=fR w4 (w.heap.size+1) 1 _ _ Dq7
 have q2:w4.cell? ⟨w.heap.size+1,2,none⟩=some (.slice none 0 0):=cR _ _ _ _ _ _ Dq7
 have F2:w4.frozen? ⟨w.heap.size+1,2,none⟩=false:=fR w4 (w.heap.size+1) 2 _ _ Dq7
 have q3:w4.cell? ⟨w.heap.size+1,3,none⟩=some (.bool false):=cR _ _ _ _ _ _ Dq7
 have F3:w4.frozen? ⟨w.heap.size+1,3,none⟩=false:=fR w4 (w.heap.size+1) 3 _ _ Dq7
 have q4:w4.cell? ⟨w.heap.size+1,4,none⟩=some (.slice none 0 0):=cR _ _ _ _ _ _ Dq7
 have F4:w4.frozen? ⟨w.heap.size+1,4,none⟩=false:=fR w4 (w.heap.size+1) 4 _ _ Dq7
 have q5:w4.cell? ⟨w.heap.size+1,5,none⟩=some (.slice none 0 0):=cR _ _ _ _ _ _ Dq7
 have F5:w4.frozen? ⟨w.heap.size+1,5,none⟩=false:=fR w4 (w.heap.size+1) 5 _ _ Dq7
 replace Dq7:=hid Dq7
 go_simp
 clear q0 F0 q1 F1 q2 F2 q3 F3 q4 F4 q5 F5
 have y0_4:=hid (bS y0_3.out b4.out)
 have FB:=hid y0_4.out
 have FV:=hid hv4.out
 obtain ⟨ue,hw⟩:=eX (((((((w4.setCell ⟨w.heap.size+1,0,none⟩ (.bool (decide (lo.num<0)))).setCell ⟨w.heap.size+1,1,none⟩ (.slice C5 (Vx.len lo.num.natAbs) j5)).setCell ⟨w.heap.size+1,2,none⟩ (.slice C6 (Vx.len (below lo.den)) j6)).setCell ⟨w.heap.size+1,3,none⟩ (.bool (decide (hi.num<0)))).setCell ⟨w.heap.size+1,4,none⟩ (.slice C7 (Vx.len hi.num.natAbs) j7)).setCell ⟨w.heap.size+1,5,none⟩ (.slice C8 (Vx.len (below hi.den)) j8)))
 obtain ⟨E_ue,OT,LV,BL⟩:=Av Dq7.out hw
 rw [←hw]
 clear hw
 replace E_ue:=hid E_ue
 have FE:=hid (LV.box FV.out)
 replace FB:=hid (BL _ _ (by omega) FB.out)
 have HKE:=hk4
 refine hK.out _ _ ?_ (fun hHeld2=>?_)
 · (try dsimp only)
   exact ⟨fun b o hb=>(Aq (BL (w.heap.size+1) _ (by omega) hk4.2.1)) b o hb,BL (w.heap.size+1) _ (by omega) hk4.2.1,Be' hk4.2.2 LV⟩
 clear hK K hHeld OT LV BL HKE
 try simp only [Act.put,lt,ly,lu]
 have hHeld:=hHeld2
 clear hHeld2
 refine wpAnyH_done (by kernel_rfl) ?_ _
 clear hHeld
 obtain ⟨r0,r1,r2,r3,r4,r5⟩:=Af E_ue.out
 go_wp2_with fail
 refine bP (v:=.agg #[.bool (decide (lo.num<0)),.slice C5 (Vx.len lo.num.natAbs) j5,.slice C6 (Vx.len (below lo.den)) j6,.bool (decide (hi.num<0)),.slice C7 (Vx.len hi.num.natAbs) j7,.slice C8 (Vx.len (below hi.den)) j8]) ?_ rfl ⟨_,rfl,FE.out,FB.out⟩
 simp [results,Tryz.results73,go_sem,r0,r1,r2,r3,r4,r5]
theorem Gy {w:World} {y n:Bool} {k:Int} (hk:(if y then 1 else if n then 2 else 3)=k):Calls Tryz.prog 77 #[.bool y,.bool n] w (fun e w'=>e=.returned (.int .u8 k)∧Below w.heap.size w w'):=hk ▸ FQ
theorem CB' {w:World} {v u:Value} {a b c d l h:Rat} (el:leastOf (a / c) [a / d,b / c,b / d]=l) (eh:greatestOf (a / c) [a / d,b / c,b / d]=h) (h0:¬ (c≤0∧0≤d)) (hv:Aj w v a b) (hu:Aj w u c d) (sa:Ab' a≤1073741824) (sb:Ab' b≤1073741824) (sc:Ab' c≤1073741824) (sd:Ab' d≤1073741824) :
   Calls Tryz.prog 75 #[v,u] w (Bw' w l h 0):=el ▸ eh ▸ Gu' hv hu sa sb sc sd h0
theorem CC {w:World} {lo hi q:Rat} {br bq:Nat} {A1 B1 A2 B2 A3 B3:Option Addr} {c1 d1 c2 d2 c3 d3:Nat} {y0 y1 y2 y3 y4 y5 y6 y7 y8 y9 y10 y11 y12 y14 y16 y17 y18 y19 y20 y21 y22 y23 y24 y25 y26 y27 y28 y29 y30 y31 y32 y33 y34 y35 y36 y37 y38 y39 y40 y41 y42 y43 y44 y45 y46 y47 y48 y49 y50 y51 y52 y53 y54 y55 y56 y57 y58 y59 y60 y61 y62 y63 y64 y65 y66 y67 y68:Value} {k:Int} {Po:Ending→World→Prop} (hr:w.heap[br]?=some (.cells #[.bool (decide (lo.num<0)),.slice A1 (Vx.len lo.num.natAbs) c1,.slice B1 (Vx.len (below lo.den)) d1,.bool (decide (hi.num<0)),.slice A2 (Vx.len hi.num.natAbs) c2,.slice B2 (Vx.len (below hi.den)) d2] 34 (0,0))) (hD:Aj w (.agg #[.bool (decide (lo.num<0)),.slice A1 (Vx.len lo.num.natAbs) c1,.slice B1 (Vx.len (below lo.den)) d1,.bool (decide (hi.num<0)),.slice A2 (Vx.len hi.num.natAbs) c2,.slice B2 (Vx.len (below hi.den)) d2]) lo hi) (sl:Ab' lo≤16777216) (sh:Ab' hi≤16777216) (hq:w.heap[bq]?=some (.cells #[.bool (decide (q.num<0)),.slice A3 (Vx.len q.num.natAbs) c3,.slice B3 (Vx.len (below q.den)) d3] 32 (0,0))) (hQ:Ad' w (.agg #[.bool (decide (q.num<0)),.slice A3 (Vx.len q.num.natAbs) c3,.slice B3 (Vx.len (below q.den)) d3]) q) (sq:Ab' q≤400000000) (hk:(if q≤lo then 1 else if hi<q then 2 else 3)=k) (hPo:∀ w',Below w.heap.size w w'→Po (.returned (.tuple #[.int .u8 k,.int .i64 0])) w') :
   (codeAt 8 Tryz.f38).wp Tryz.prog (bodyPost Tryz.prog Tryz.f38 Po) { tmps:=#[y0,y1,y2,y3,y4,y5,y6,y7,y8,y9,y10,y11,y12,.pointer (some ⟨br,0,none⟩),y14,.pointer (some ⟨bq,0,none⟩),y16,y17,y18,y19,y20,y21,y22,y23,y24,y25,y26,y27,y28,y29,y30,y31,y32,y33,y34,y35,y36,y37,y38,y39,y40,y41,y42,y43,y44,y45,y46,y47,y48,y49,y50,y51,y52,y53,y54,y55,y56,y57,y58,y59,y60,y61,y62,y63,y64,y65,y66,y67,y68],defers:=[] } w:=by
 obtain ⟨c9,e9⟩:=eY (cmpQ lo q:Int)
 obtain ⟨c8,e8⟩:=eY (cmpQ hi q:Int)
 have hk2:(if decide (c9≥0)=true then 1 else if decide (c8<0)=true then 2 else 3)=k:=by
   rw [←hk,←e9,←e8]
   simp only [decide_eq_true_eq,Bg',ge_iff_le]
   have h9:0≤cmpQ lo q↔q≤lo:=by
     constructor
     · intro h;exact Rat.not_lt.1 (fun h2=>absurd (Bg'.2 h2) (by omega))
     · intro h;exact Int.not_lt.1 (fun h2=>absurd h (Rat.not_le.2 (Bg'.1 h2)))
   simp only [h9]
 have hbr:=Af' hr
 have hbq:=Af' hq
 have kl:Ab' lo≤536870912:=by omega
 have kh:Ab' hi≤536870912:=by omega
 have kq:Ab' q≤536870912:=by omega
 clear hk
 replace e9:=hid e9
 replace e8:=hid e8
 replace hk2:=hid hk2
 replace hr:=hid hr
 replace hq:=hid hq
 replace hD:=hid hD
 replace hQ:=hid hQ
 replace kl:=hid kl
 replace kh:=hid kh
 replace kq:=hid kq
 replace sl:=hid sl
 replace sh:=hid sh
 replace hPo:=hid hPo
 show Code.wp _ (Code.seq _ _) _ _ _
 obtain ⟨z_D_0,z_D_1,z_D_2,z_D_3,z_D_4,z_D_5⟩:=Af hr.out
 obtain ⟨z_q_0,z_q_1,z_q_2⟩:=Ae hq.out
 go_wp2_with fail
 refine wp_region_held_drew (S:=(fun w'=>(w'.cell? ⟨br,0,none⟩=w.cell? ⟨br,0,none⟩∧w'.cell? ⟨br,1,none⟩=w.cell? ⟨br,1,none⟩∧w'.cell? ⟨br,2,none⟩=w.cell? ⟨br,2,none⟩∧w'.cell? ⟨br,3,none⟩=w.cell? ⟨br,3,none⟩∧w'.cell? ⟨br,4,none⟩=w.cell? ⟨br,4,none⟩∧w'.cell? ⟨br,5,none⟩=w.cell? ⟨br,5,none⟩∧w'.cell? ⟨bq,0,none⟩=w.cell? ⟨bq,0,none⟩∧w'.cell? ⟨bq,1,none⟩=w.cell? ⟨bq,1,none⟩∧w'.cell? ⟨bq,2,none⟩=w.cell? ⟨bq,2,none⟩))) (by kernel_rfl) ?_ (fun hHeld=>?_)
 · (try dsimp only)
   exact ⟨rfl,rfl,rfl,rfl,rfl,rfl,rfl,rfl,rfl⟩
 obtain ⟨w1,hw1⟩:=eX w.drew
 have b1:Hid (Below w.heap.size w w1):=hid (by rw [hw1];exact ⟨rfl,rfl,rfl,nL _,fun _ _=>rfl⟩)
 rw [←hw1] at hHeld ⊢
 clear hw1
 have lbW:w.heap.size≤w1.heap.size:=b1.out.size
 have lbS:w.heap.size≤w1.heap.size:=b1.out.size
 refine tk (i:=0) (h:=?_)
 try simp only [Act.put,lt,ly,lu]
 refine tk (i:=2) (h:=?_)
 try simp only [Act.put,lt,ly,lu]
 refine tk (i:=5) (h:=?_)
 try simp only [Act.put,lt,ly,lu]
 refine tk (i:=7) (h:=?_)
 try simp only [Act.put,lt,ly,lu]
 refine rd (i:=1) (h:=fun K hK=>?_)
 go_simp;go_at_call 30
 refine (Bm (hD.out.keep b1.out) (nT sl.out (by omega))).mono ?_
 rintro e w2 ⟨v2,rfl,hv2,b2⟩
 obtain ⟨C1,j1,C2,j2,rfl,-,-⟩:=id hv2.opened
 replace hv2:=hid hv2
 replace b2:=hid b2
 have y0_2:=hid (bS b1.out b2.out)
 have hS:=y0_2.out
 clear hHeld
 refine hK.out _ _ ?_ (fun hHeld=>?_)
 · (try dsimp only)
   exact ⟨hS.cell (p:=⟨br,0,none⟩) hbr,hS.cell (p:=⟨br,1,none⟩) hbr,hS.cell (p:=⟨br,2,none⟩) hbr,hS.cell (p:=⟨br,3,none⟩) hbr,hS.cell (p:=⟨br,4,none⟩) hbr,hS.cell (p:=⟨br,5,none⟩) hbr,hS.cell (p:=⟨bq,0,none⟩) hbq,hS.cell (p:=⟨bq,1,none⟩) hbq,hS.cell (p:=⟨bq,2,none⟩) hbq⟩
 clear hK K hS;try simp only [Act.put,lt,ly,lu]
 refine rd (i:=3) (h:=fun K hK=>?_)
 go_simp;go_at_call 21
 refine (Ba' e9.out hv2.out (hQ.out.keep y0_2.out) kl.out kq.out).mono ?_
 rintro e w3 ⟨rfl,b3⟩
 replace b3:=hid b3
 have y0_3:=hid (bS y0_2.out b3.out)
 have hS:=y0_3.out
 clear hHeld
 refine hK.out _ _ ?_ (fun hHeld=>?_)
 · (try dsimp only)
   exact ⟨hS.cell (p:=⟨br,0,none⟩) hbr,hS.cell (p:=⟨br,1,none⟩) hbr,hS.cell (p:=⟨br,2,none⟩) hbr,hS.cell (p:=⟨br,3,none⟩) hbr,hS.cell (p:=⟨br,4,none⟩) hbr,hS.cell (p:=⟨br,5,none⟩) hbr,hS.cell (p:=⟨bq,0,none⟩) hbq,hS.cell (p:=⟨bq,1,none⟩) hbq,hS.cell (p:=⟨bq,2,none⟩) hbq⟩
 clear hK K hS;try simp only [Act.put,lt,ly,lu]
 refine tk (i:=4) (h:=?_)
 try simp only [Act.put,lt,ly,lu]
 refine rd (i:=6) (h:=fun K hK=>?_)
 go_simp;go_at_call 32
 refine (BS (hD.out.keep y0_3.out) (nT sh.out (by omega))).mono ?_
 rintro e w4 ⟨v4,rfl,hv4,b4⟩
 obtain ⟨C3,j3,C4,j4,rfl,-,-⟩:=id hv4.opened
 replace hv4:=hid hv4
 replace b4:=hid b4
 have y0_4:=hid (bS y0_3.out b4.out)
 have hS:=y0_4.out
 clear hHeld
 refine hK.out _ _ ?_ (fun hHeld=>?_)
 · (try dsimp only)
   exact ⟨hS.cell (p:=⟨br,0,none⟩) hbr,hS.cell (p:=⟨br,1,none⟩) hbr,hS.cell (p:=⟨br,2,none⟩) hbr,hS.cell (p:=⟨br,3,none⟩) hbr,hS.cell (p:=⟨br,4,none⟩) hbr,hS.cell (p:=⟨br,5,none⟩) hbr,hS.cell (p:=⟨bq,0,none⟩) hbq,hS.cell (p:=⟨bq,1,none⟩) hbq,hS.cell (p:=⟨bq,2,none⟩) hbq⟩
 clear hK K hS;try simp only [Act.put,lt,ly,lu]
 refine rd (i:=8) (h:=fun K hK=>?_)
 go_simp;go_at_call 21
 refine (Ba' e8.out hv4.out (hQ.out.keep y0_4.out) kh.out kq.out).mono ?_
 rintro e w5 ⟨rfl,b5⟩
 replace b5:=hid b5
 have y0_5:=hid (bS y0_4.out b5.out)
 have hS:=y0_5.out
 clear hHeld
 refine hK.out _ _ ?_ (fun hHeld=>?_)
 · (try dsimp only)
   exact ⟨hS.cell (p:=⟨br,0,none⟩) hbr,hS.cell (p:=⟨br,1,none⟩) hbr,hS.cell (p:=⟨br,2,none⟩) hbr,hS.cell (p:=⟨br,3,none⟩) hbr,hS.cell (p:=⟨br,4,none⟩) hbr,hS.cell (p:=⟨br,5,none⟩) hbr,hS.cell (p:=⟨bq,0,none⟩) hbq,hS.cell (p:=⟨bq,1,none⟩) hbq,hS.cell (p:=⟨bq,2,none⟩) hbq⟩
 clear hK K hS;try simp only [Act.put,lt,ly,lu]
 refine tk (i:=9) (h:=?_)
 try simp only [Act.put,lt,ly,lu]
 refine rd (i:=10) (h:=fun K hK=>?_)
 go_simp;go_at_call 77
 refine (Gy hk2.out).mono ?_
 rintro e w6 ⟨rfl,b6⟩
 replace b6:=hid b6
 have y0_6:=hid (bS y0_5.out b6.out)
 have hS:=y0_6.out
 clear hHeld
 refine hK.out _ _ ?_ (fun hHeld=>?_)
 · (try dsimp only)
   exact ⟨hS.cell (p:=⟨br,0,none⟩) hbr,hS.cell (p:=⟨br,1,none⟩) hbr,hS.cell (p:=⟨br,2,none⟩) hbr,hS.cell (p:=⟨br,3,none⟩) hbr,hS.cell (p:=⟨br,4,none⟩) hbr,hS.cell (p:=⟨br,5,none⟩) hbr,hS.cell (p:=⟨bq,0,none⟩) hbq,hS.cell (p:=⟨bq,1,none⟩) hbq,hS.cell (p:=⟨bq,2,none⟩) hbq⟩
 clear hK K hS;try simp only [Act.put,lt,ly,lu]
 refine tk (i:=11) (h:=?_)
 try simp only [Act.put,lt,ly,lu]
 refine tk (i:=12) (h:=?_)
 try simp only [Act.put,lt,ly,lu]
 refine wpAnyH_done (by kernel_rfl) ?_ _
 clear hHeld
 have FB:=hid y0_6.out
 go_wp2_with fail
 exact hPo.out _ FB.out
theorem Cb' {w:World} {lo hi m:Rat} {br bm n:Nat} {A1 B1 A2 B2 A4 B4:Option Addr} {c1 d1 c2 d2 c4 d4:Nat} {y0 y1 y2 y3 y4 y5 y6 y8 y9 y10 y12 y15 y16 y17 y18 y19 y20 y21 y22 y23 y24 y25 y26 y27 y28 y29 y30 y31 y32 y33 y34 y35 y36 y37 y38 y39 y40 y41 y42 y43 y44 y45 y46 y47 y48 y49 y50 y51 y52 y53 y54 y55 y56 y57 y58 y59 y60 y61 y62 y63 y64 y65 y66 y67 y68:Value} {k:Int} {Po:Ending→World→Prop} (hr:w.heap[br]?=some (.cells #[.bool (decide (lo.num<0)),.slice A1 (Vx.len lo.num.natAbs) c1,.slice B1 (Vx.len (below lo.den)) d1,.bool (decide (hi.num<0)),.slice A2 (Vx.len hi.num.natAbs) c2,.slice B2 (Vx.len (below hi.den)) d2] 34 (0,0))) (hD:Aj w (.agg #[.bool (decide (lo.num<0)),.slice A1 (Vx.len lo.num.natAbs) c1,.slice B1 (Vx.len (below lo.den)) d1,.bool (decide (hi.num<0)),.slice A2 (Vx.len hi.num.natAbs) c2,.slice B2 (Vx.len (below hi.den)) d2]) lo hi) (sl:Ab' lo≤16777216) (sh:Ab' hi≤16777216) (hm:w.heap[bm]?=some (.cells #[.bool (decide (m.num<0)),.slice A4 (Vx.len m.num.natAbs) c4,.slice B4 (Vx.len (below m.den)) d4] 32 (0,0))) (hM:Ad' w (.agg #[.bool (decide (m.num<0)),.slice A4 (Vx.len m.num.natAbs) c4,.slice B4 (Vx.len (below m.den)) d4]) m) (sm:Ab' m≤900000) (hn:n≤200) (hk:(if (1 - m)^n≤lo then 1 else if hi<(1 - m)^n then 2 else 3)=k) (hPo:∀ w',Below w.heap.size w w'→Po (.returned (.tuple #[.int .u8 k,.int .i64 0])) w') :
   (codeAt 6 Tryz.f38).wp Tryz.prog (bodyPost Tryz.prog Tryz.f38 Po) { tmps:=#[y0,y1,y2,y3,y4,y5,y6,.pointer (some ⟨bm,0,none⟩),y8,y9,y10,.int .i64 ((n:Nat):Int),y12,.pointer (some ⟨br,0,none⟩),.int .i64 0,y15,y16,y17,y18,y19,y20,y21,y22,y23,y24,y25,y26,y27,y28,y29,y30,y31,y32,y33,y34,y35,y36,y37,y38,y39,y40,y41,y42,y43,y44,y45,y46,y47,y48,y49,y50,y51,y52,y53,y54,y55,y56,y57,y58,y59,y60,y61,y62,y63,y64,y65,y66,y67,y68],defers:=[] } w:=by
 obtain ⟨o,eo⟩:=eY (((1:Int):Rat):Rat)
 obtain ⟨d,ed⟩:=eY (o - m:Rat)
 obtain ⟨q,eq⟩:=eY (d^n:Rat)
 have eq2:(1 - m)^n=q:=by rw [←eq,←ed,←eo];rfl
 rw [eq2] at hk
 have ko:Ab' o≤3:=by rw [←eo];decide
 have sd:Ab' d≤1000000:=by rw [←ed];have:=Vx.AF' o m;omega
 have ko2:Ab' o≤536870912:=by omega
 have sq:Ab' q≤400000000:=by
   rw [←eq]
   have h1:=EV' d n
   have h2:Ab' d*n≤Ab' d*200:=mL _ (by omega)
   omega
 have km:Ab' m≤536870912:=by omega
 have hbr:=Af' hr
 have hbm:=Af' hm
 clear eq2 ko
 replace eo:=hid eo
 replace ed:=hid ed
 replace eq:=hid eq
 replace ko2:=hid ko2
 replace sd:=hid sd
 replace sq:=hid sq
 replace km:=hid km
 replace hr:=hid hr
 replace hm:=hid hm
 replace hD:=hid hD
 replace hM:=hid hM
 replace sl:=hid sl
 replace sh:=hid sh
 replace hk:=hid hk
 replace hPo:=hid hPo
 show Code.wp _ (Code.seq _ _) _ _ _
 obtain ⟨z_m_0,z_m_1,z_m_2⟩:=Ae hm.out
 go_upto_region 11 with fail
 rename_i G hG
 replace hG:=hid hG
 go_wp2_with fail
 refine wp_region_held_drew (S:=(fun w'=>(w'.cell? ⟨bm,0,none⟩=w.cell? ⟨bm,0,none⟩∧w'.cell? ⟨bm,1,none⟩=w.cell? ⟨bm,1,none⟩∧w'.cell? ⟨bm,2,none⟩=w.cell? ⟨bm,2,none⟩))) (by kernel_rfl) ?_ (fun hHeld=>?_)
 · (try dsimp only)
   exact ⟨rfl,rfl,rfl⟩
 obtain ⟨w1,hw1⟩:=eX w.drew
 have b1:Hid (Below w.heap.size w w1):=hid (by rw [hw1];exact ⟨rfl,rfl,rfl,nL _,fun _ _=>rfl⟩)
 rw [←hw1] at hHeld ⊢
 clear hw1
 have lbW:w.heap.size≤w1.heap.size:=b1.out.size
 have lbS:w.heap.size≤w1.heap.size:=b1.out.size
 have lc_D:br<w1.heap.size:=Af' (Ac' hr.out b1.out)
 refine tk (i:=1) (h:=?_)
 try simp only [Act.put,lt,ly,lu]
 refine tk (i:=3) (h:=?_)
 try simp only [Act.put,lt,ly,lu]
 refine wpAnyH_ready (rs:=[0,5]) (by kernel_rfl) (by simp) (AllReadyH.cons (o:=?o0q6) ?e0q6 ?k0q6 (AllReadyH.cons (o:=?o5q6) ?e5q6 ?k5q6 AllReadyH.nil))
 case e0q6=>simp only [lg,lz,ls] <;> rfl
 case e5q6=>simp only [lg,lz,ls] <;> rfl
 case k0q6 =>
   intro K hK
   go_simp;go_at_call 25
   refine (Ay' (w:=w1) eo.out (by omega) (by omega)).mono ?_
   rintro e w2 ⟨v2,rfl,hv2,b2⟩
   obtain ⟨C1,j1,C2,j2,rfl,-,-⟩:=id hv2.opened
   replace hv2:=hid hv2
   replace b2:=hid b2
   have y0_2:=hid (bS b1.out b2.out)
   have hS:=y0_2.out
   clear hHeld
   refine hK.out _ _ ?_ (fun hHeld=>?_)
   · (try dsimp only)
     exact ⟨hS.cell (p:=⟨bm,0,none⟩) hbm,hS.cell (p:=⟨bm,1,none⟩) hbm,hS.cell (p:=⟨bm,2,none⟩) hbm⟩
   clear hK K hS;try simp only [Act.put,lt,ly,lu]
   refine wpAnyH_ready (rs:=[2,5]) (by kernel_rfl) (by simp) (AllReadyH.cons (o:=?o2q7) ?e2q7 ?k2q7 (AllReadyH.cons (o:=?o5q7) ?e5q7 ?k5q7 AllReadyH.nil))
   case e2q7=>simp only [lg,lz,ls] <;> rfl
   case e5q7=>simp only [lg,lz,ls] <;> rfl
   case k2q7 =>
     intro K hK
     go_simp;go_at_call 10
     refine (A9' ed.out hv2.out (hM.out.keep y0_2.out) ko2.out km.out).mono ?_
     rintro e w3 ⟨v3,rfl,hv3,b3⟩
     obtain ⟨C3,j3,C4,j4,rfl,-,-⟩:=id hv3.opened
     replace hv3:=hid hv3
     replace b3:=hid b3
     have y0_3:=hid (bS y0_2.out b3.out)
     have hS:=y0_3.out
     clear hHeld
     refine hK.out _ _ ?_ (fun hHeld=>?_)
     · (try dsimp only)
       exact ⟨hS.cell (p:=⟨bm,0,none⟩) hbm,hS.cell (p:=⟨bm,1,none⟩) hbm,hS.cell (p:=⟨bm,2,none⟩) hbm⟩
     clear hK K hS;try simp only [Act.put,lt,ly,lu]
     refine wpAnyH_ready (rs:=[4,5]) (by kernel_rfl) (by simp) (AllReadyH.cons (o:=?o4q8) ?e4q8 ?k4q8 (AllReadyH.cons (o:=?o5q8) ?e5q8 ?k5q8 AllReadyH.nil))
     case e4q8=>simp only [lg,lz,ls] <;> rfl
     case e5q8=>simp only [lg,lz,ls] <;> rfl
     case k4q8 =>
       intro K hK
       go_simp;go_at_call 76
       refine (CB hv3.out hn sd.out eq.out).mono ?_
       rintro e w4 ⟨v4,rfl,hv4,b4⟩
       obtain ⟨C5,j5,C6,j6,rfl,-,-⟩:=id hv4.opened
       replace hv4:=hid hv4
       replace b4:=hid b4
       have y0_4:=hid (bS y0_3.out b4.out)
       have hS:=y0_4.out
       clear hHeld
       refine hK.out _ _ ?_ (fun hHeld=>?_)
       · (try dsimp only)
         exact ⟨hS.cell (p:=⟨bm,0,none⟩) hbm,hS.cell (p:=⟨bm,1,none⟩) hbm,hS.cell (p:=⟨bm,2,none⟩) hbm⟩
       clear hK K hS;try simp only [Act.put,lt,ly,lu]
       refine rd (i:=5) (h:=fun K hK=>?_)
       have y1_4:=hid (bS (bS b2.out b3.out) b4.out)
       have lb_al:w1.heap.size≤w4.heap.size:=y1_4.out.size
       go_simp
       obtain ⟨w5,hw5⟩:=eX (w4.alloc (.cells #[.bool false,.slice none 0 0,.slice none 0 0] 32))
       have b5:=hid (Ar hw5)
       have L5:=hid (At' hw5)
       rw [←hw5]
       clear hw5
       have y0_5:=hid (bS y0_4.out b5.out)
       have hS:=y0_5.out
       clear hHeld
       refine hK.out _ _ ?_ (fun hHeld=>?_)
       · (try dsimp only)
         exact ⟨hS.cell (p:=⟨bm,0,none⟩) hbm,hS.cell (p:=⟨bm,1,none⟩) hbm,hS.cell (p:=⟨bm,2,none⟩) hbm⟩
       clear hK K hS;try simp only [Act.put,lt,ly,lu]
       refine rd (i:=6) (h:=fun K hK=>?_)
       have DBq11:=Ac' L5.out (Below.refl _ w5)
       have q0:w5.cell? ⟨w4.heap.size,0,none⟩=some (.bool false):=cR _ _ _ _ _ _ DBq11
       have F0:w5.frozen? ⟨w4.heap.size,0,none⟩=false:=fR w5 (w4.heap.size) 0 _ _ DBq11
       have q1:w5.cell? ⟨w4.heap.size,1,none⟩=some (.slice none 0 0):=cR _ _ _ _ _ _ DBq11
       have F1:w5.frozen? ⟨w4.heap.size,1,none⟩=false:=fR w5 (w4.heap.size) 1 _ _ DBq11
       have q2:w5.cell? ⟨w4.heap.size,2,none⟩=some (.slice none 0 0):=cR _ _ _ _ _ _ DBq11
       have F2:w5.frozen? ⟨w4.heap.size,2,none⟩=false:=fR w5 (w4.heap.size) 2 _ _ DBq11
       go_simp
       clear q0 F0 q1 F1 q2 F2
       have hS:=y0_5.out
       have FV:=hid (hv4.out.keep b5.out)
       have FB:=hid y0_5.out
       obtain ⟨w6,hw⟩:=eX ((((w5.setCell ⟨w4.heap.size,0,none⟩ (.bool (decide (q.num<0)))).setCell ⟨w4.heap.size,1,none⟩ (.slice C5 (Vx.len q.num.natAbs) j5)).setCell ⟨w4.heap.size,2,none⟩ (.slice C6 (Vx.len (below q.den)) j6)))
       obtain ⟨E,OT,LV,BL⟩:=As' DBq11 hw
       rw [←hw]
       clear hw
       have L6:=hid E
       have FB6:=hid (BL _ _ (by omega) FB.out)
       have HS6:=hid (BL _ _ (show w.heap.size≤w4.heap.size by omega) hS)
       have LKD6:=hid (OT _ _ (by omega) (Ac' hr.out y0_5.out))
       have KVD6:=hid (LV.box (hD.out.keep y0_5.out))
       have KVp6:=hid (LV.num (hv4.out.keep b5.out))
       refine hK.out _ _ ?_ (fun hHeld2=>?_)
       · (try dsimp only)
         exact ⟨(Aa' OT (by omega) (ltl hbm hS.size)).trans (hS.cell (p:=⟨bm,0,none⟩) hbm),(Aa' OT (by omega) (ltl hbm hS.size)).trans (hS.cell (p:=⟨bm,1,none⟩) hbm),(Aa' OT (by omega) (ltl hbm hS.size)).trans (hS.cell (p:=⟨bm,2,none⟩) hbm)⟩
       clear hK K hHeld hS OT LV BL FV FB E DBq11
       try simp only [Act.put,lt,ly,lu]
       have hHeld:=hHeld2
       clear hHeld2
       refine wpAnyH_done (by kernel_rfl) ?_ _
       clear hHeld
       have FB:=hid FB6.out
       go_wp2_with fail
       refine hG.out _ _ ?_
       exact CC LKD6.out KVD6.out sl.out sh.out L6.out KVp6.out sq.out hk.out (fun w' h=>hPo.out w' (Ae' FB.out h))
     case k5q8 =>
       intro K hK
       have y1_3:=hid (bS b2.out b3.out)
       have lb_al:w1.heap.size≤w3.heap.size:=y1_3.out.size
       go_simp
       obtain ⟨w4,hw4⟩:=eX (w3.alloc (.cells #[.bool false,.slice none 0 0,.slice none 0 0] 32))
       have b4:=hid (Ar hw4)
       have L4:=hid (At' hw4)
       rw [←hw4]
       clear hw4
       have y0_4:=hid (bS y0_3.out b4.out)
       have hS:=y0_4.out
       clear hHeld
       refine hK.out _ _ ?_ (fun hHeld=>?_)
       · (try dsimp only)
         exact ⟨hS.cell (p:=⟨bm,0,none⟩) hbm,hS.cell (p:=⟨bm,1,none⟩) hbm,hS.cell (p:=⟨bm,2,none⟩) hbm⟩
       clear hK K hS;try simp only [Act.put,lt,ly,lu]
       refine rd (i:=4) (h:=fun K hK=>?_)
       go_simp;go_at_call 76
       refine (CB (hv3.out.keep b4.out) hn sd.out eq.out).mono ?_
       rintro e w5 ⟨v5,rfl,hv5,b5⟩
       obtain ⟨C7,j7,C8,j8,rfl,-,-⟩:=id hv5.opened
       replace hv5:=hid hv5
       replace b5:=hid b5
       have y0_5:=hid (bS y0_4.out b5.out)
       have hS:=y0_5.out
       clear hHeld
       refine hK.out _ _ ?_ (fun hHeld=>?_)
       · (try dsimp only)
         exact ⟨hS.cell (p:=⟨bm,0,none⟩) hbm,hS.cell (p:=⟨bm,1,none⟩) hbm,hS.cell (p:=⟨bm,2,none⟩) hbm⟩
       clear hK K hS;try simp only [Act.put,lt,ly,lu]
       refine rd (i:=6) (h:=fun K hK=>?_)
       have DBq14:=Ac' L4.out b5.out
       have q0:w5.cell? ⟨w3.heap.size,0,none⟩=some (.bool false):=cR _ _ _ _ _ _ DBq14
       have F0:w5.frozen? ⟨w3.heap.size,0,none⟩=false:=fR w5 (w3.heap.size) 0 _ _ DBq14
       have q1:w5.cell? ⟨w3.heap.size,1,none⟩=some (.slice none 0 0):=cR _ _ _ _ _ _ DBq14
       have F1:w5.frozen? ⟨w3.heap.size,1,none⟩=false:=fR w5 (w3.heap.size) 1 _ _ DBq14
       have q2:w5.cell? ⟨w3.heap.size,2,none⟩=some (.slice none 0 0):=cR _ _ _ _ _ _ DBq14
       have F2:w5.frozen? ⟨w3.heap.size,2,none⟩=false:=fR w5 (w3.heap.size) 2 _ _ DBq14
       go_simp
       clear q0 F0 q1 F1 q2 F2
       have hS:=y0_5.out
       have FV:=hid hv5.out
       have FB:=hid y0_5.out
       obtain ⟨w6,hw⟩:=eX ((((w5.setCell ⟨w3.heap.size,0,none⟩ (.bool (decide (q.num<0)))).setCell ⟨w3.heap.size,1,none⟩ (.slice C7 (Vx.len q.num.natAbs) j7)).setCell ⟨w3.heap.size,2,none⟩ (.slice C8 (Vx.len (below q.den)) j8)))
       obtain ⟨E,OT,LV,BL⟩:=As' DBq14 hw
       rw [←hw]
       clear hw
       have L6:=hid E
       have FB6:=hid (BL _ _ (by omega) FB.out)
       have HS6:=hid (BL _ _ (show w.heap.size≤w3.heap.size by omega) hS)
       have LKD6:=hid (OT _ _ (by omega) (Ac' hr.out y0_5.out))
       have KVD6:=hid (LV.box (hD.out.keep y0_5.out))
       have KVp6:=hid (LV.num hv5.out)
       refine hK.out _ _ ?_ (fun hHeld2=>?_)
       · (try dsimp only)
         exact ⟨(Aa' OT (by omega) (ltl hbm hS.size)).trans (hS.cell (p:=⟨bm,0,none⟩) hbm),(Aa' OT (by omega) (ltl hbm hS.size)).trans (hS.cell (p:=⟨bm,1,none⟩) hbm),(Aa' OT (by omega) (ltl hbm hS.size)).trans (hS.cell (p:=⟨bm,2,none⟩) hbm)⟩
       clear hK K hHeld hS OT LV BL FV FB E DBq14
       try simp only [Act.put,lt,ly,lu]
       have hHeld:=hHeld2
       clear hHeld2
       refine wpAnyH_done (by kernel_rfl) ?_ _
       clear hHeld
       have FB:=hid FB6.out
       go_wp2_with fail
       refine hG.out _ _ ?_
       exact CC LKD6.out KVD6.out sl.out sh.out L6.out KVp6.out sq.out hk.out (fun w' h=>hPo.out w' (Ae' FB.out h))
   case k5q7 =>
     intro K hK
     have lb_al:w1.heap.size≤w2.heap.size:=b2.out.size
     go_simp
     obtain ⟨w3,hw3⟩:=eX (w2.alloc (.cells #[.bool false,.slice none 0 0,.slice none 0 0] 32))
     have b3:=hid (Ar hw3)
     have L3:=hid (At' hw3)
     rw [←hw3]
     clear hw3
     have y0_3:=hid (bS y0_2.out b3.out)
     have hS:=y0_3.out
     clear hHeld
     refine hK.out _ _ ?_ (fun hHeld=>?_)
     · (try dsimp only)
       exact ⟨hS.cell (p:=⟨bm,0,none⟩) hbm,hS.cell (p:=⟨bm,1,none⟩) hbm,hS.cell (p:=⟨bm,2,none⟩) hbm⟩
     clear hK K hS;try simp only [Act.put,lt,ly,lu]
     refine rd (i:=2) (h:=fun K hK=>?_)
     go_simp;go_at_call 10
     refine (A9' ed.out (hv2.out.keep b3.out) (hM.out.keep y0_3.out) ko2.out km.out).mono ?_
     rintro e w4 ⟨v4,rfl,hv4,b4⟩
     obtain ⟨C9,j9,C10,j10,rfl,-,-⟩:=id hv4.opened
     replace hv4:=hid hv4
     replace b4:=hid b4
     have y0_4:=hid (bS y0_3.out b4.out)
     have hS:=y0_4.out
     clear hHeld
     refine hK.out _ _ ?_ (fun hHeld=>?_)
     · (try dsimp only)
       exact ⟨hS.cell (p:=⟨bm,0,none⟩) hbm,hS.cell (p:=⟨bm,1,none⟩) hbm,hS.cell (p:=⟨bm,2,none⟩) hbm⟩
     clear hK K hS;try simp only [Act.put,lt,ly,lu]
     refine rd (i:=4) (h:=fun K hK=>?_)
     go_simp;go_at_call 76
     refine (CB hv4.out hn sd.out eq.out).mono ?_
     rintro e w5 ⟨v5,rfl,hv5,b5⟩
     obtain ⟨C11,j11,C12,j12,rfl,-,-⟩:=id hv5.opened
     replace hv5:=hid hv5
     replace b5:=hid b5
     have y0_5:=hid (bS y0_4.out b5.out)
     have hS:=y0_5.out
     clear hHeld
     refine hK.out _ _ ?_ (fun hHeld=>?_)
     · (try dsimp only)
       exact ⟨hS.cell (p:=⟨bm,0,none⟩) hbm,hS.cell (p:=⟨bm,1,none⟩) hbm,hS.cell (p:=⟨bm,2,none⟩) hbm⟩
     clear hK K hS;try simp only [Act.put,lt,ly,lu]
     refine rd (i:=6) (h:=fun K hK=>?_)
     have y3_5:=hid (bS b4.out b5.out)
     have DBq18:=Ac' L3.out y3_5.out
     have q0:w5.cell? ⟨w2.heap.size,0,none⟩=some (.bool false):=cR _ _ _ _ _ _ DBq18
     have F0:w5.frozen? ⟨w2.heap.size,0,none⟩=false:=fR w5 (w2.heap.size) 0 _ _ DBq18
     have q1:w5.cell? ⟨w2.heap.size,1,none⟩=some (.slice none 0 0):=cR _ _ _ _ _ _ DBq18
     have F1:w5.frozen? ⟨w2.heap.size,1,none⟩=false:=fR w5 (w2.heap.size) 1 _ _ DBq18
     have q2:w5.cell? ⟨w2.heap.size,2,none⟩=some (.slice none 0 0):=cR _ _ _ _ _ _ DBq18
     have F2:w5.frozen? ⟨w2.heap.size,2,none⟩=false:=fR w5 (w2.heap.size) 2 _ _ DBq18
     go_simp
     clear q0 F0 q1 F1 q2 F2
     have hS:=y0_5.out
     have FV:=hid hv5.out
     have FB:=hid y0_5.out
     obtain ⟨w6,hw⟩:=eX ((((w5.setCell ⟨w2.heap.size,0,none⟩ (.bool (decide (q.num<0)))).setCell ⟨w2.heap.size,1,none⟩ (.slice C11 (Vx.len q.num.natAbs) j11)).setCell ⟨w2.heap.size,2,none⟩ (.slice C12 (Vx.len (below q.den)) j12)))
     obtain ⟨E,OT,LV,BL⟩:=As' DBq18 hw
     rw [←hw]
     clear hw
     have L6:=hid E
     have FB6:=hid (BL _ _ (by omega) FB.out)
     have HS6:=hid (BL _ _ (show w.heap.size≤w2.heap.size by omega) hS)
     have LKD6:=hid (OT _ _ (by omega) (Ac' hr.out y0_5.out))
     have KVD6:=hid (LV.box (hD.out.keep y0_5.out))
     have KVp6:=hid (LV.num hv5.out)
     refine hK.out _ _ ?_ (fun hHeld2=>?_)
     · (try dsimp only)
       exact ⟨(Aa' OT (by omega) (ltl hbm hS.size)).trans (hS.cell (p:=⟨bm,0,none⟩) hbm),(Aa' OT (by omega) (ltl hbm hS.size)).trans (hS.cell (p:=⟨bm,1,none⟩) hbm),(Aa' OT (by omega) (ltl hbm hS.size)).trans (hS.cell (p:=⟨bm,2,none⟩) hbm)⟩
     clear hK K hHeld hS OT LV BL FV FB E DBq18
     try simp only [Act.put,lt,ly,lu]
     have hHeld:=hHeld2
     clear hHeld2
     refine wpAnyH_done (by kernel_rfl) ?_ _
     clear hHeld
     have FB:=hid FB6.out
     go_wp2_with fail
     refine hG.out _ _ ?_
     exact CC LKD6.out KVD6.out sl.out sh.out L6.out KVp6.out sq.out hk.out (fun w' h=>hPo.out w' (Ae' FB.out h))
 case k5q6 =>
   intro K hK
   have lb_al:w1.heap.size≤w1.heap.size:=nL _
   go_simp
   obtain ⟨w2,hw2⟩:=eX (w1.alloc (.cells #[.bool false,.slice none 0 0,.slice none 0 0] 32))
   have b2:=hid (Ar hw2)
   have L2:=hid (At' hw2)
   rw [←hw2]
   clear hw2
   have y0_2:=hid (bS b1.out b2.out)
   have hS:=y0_2.out
   clear hHeld
   refine hK.out _ _ ?_ (fun hHeld=>?_)
   · (try dsimp only)
     exact ⟨hS.cell (p:=⟨bm,0,none⟩) hbm,hS.cell (p:=⟨bm,1,none⟩) hbm,hS.cell (p:=⟨bm,2,none⟩) hbm⟩
   clear hK K hS;try simp only [Act.put,lt,ly,lu]
   refine rd (i:=0) (h:=fun K hK=>?_)
   go_simp;go_at_call 25
   refine (Ay' (w:=w2) eo.out (by omega) (by omega)).mono ?_
   rintro e w3 ⟨v3,rfl,hv3,b3⟩
   obtain ⟨C13,j13,C14,j14,rfl,-,-⟩:=id hv3.opened
   replace hv3:=hid hv3
   replace b3:=hid b3
   have y0_3:=hid (bS y0_2.out b3.out)
   have hS:=y0_3.out
   clear hHeld
   refine hK.out _ _ ?_ (fun hHeld=>?_)
   · (try dsimp only)
     exact ⟨hS.cell (p:=⟨bm,0,none⟩) hbm,hS.cell (p:=⟨bm,1,none⟩) hbm,hS.cell (p:=⟨bm,2,none⟩) hbm⟩
   clear hK K hS;try simp only [Act.put,lt,ly,lu]
   refine rd (i:=2) (h:=fun K hK=>?_)
   go_simp;go_at_call 10
   refine (A9' ed.out hv3.out (hM.out.keep y0_3.out) ko2.out km.out).mono ?_
   rintro e w4 ⟨v4,rfl,hv4,b4⟩
   obtain ⟨C15,j15,C16,j16,rfl,-,-⟩:=id hv4.opened
   replace hv4:=hid hv4
   replace b4:=hid b4
   have y0_4:=hid (bS y0_3.out b4.out)
   have hS:=y0_4.out
   clear hHeld
   refine hK.out _ _ ?_ (fun hHeld=>?_)
   · (try dsimp only)
     exact ⟨hS.cell (p:=⟨bm,0,none⟩) hbm,hS.cell (p:=⟨bm,1,none⟩) hbm,hS.cell (p:=⟨bm,2,none⟩) hbm⟩
   clear hK K hS;try simp only [Act.put,lt,ly,lu]
   refine rd (i:=4) (h:=fun K hK=>?_)
   go_simp;go_at_call 76
   refine (CB hv4.out hn sd.out eq.out).mono ?_
   rintro e w5 ⟨v5,rfl,hv5,b5⟩
   obtain ⟨C17,j17,C18,j18,rfl,-,-⟩:=id hv5.opened
   replace hv5:=hid hv5
   replace b5:=hid b5
   have y0_5:=hid (bS y0_4.out b5.out)
   have hS:=y0_5.out
   clear hHeld
   refine hK.out _ _ ?_ (fun hHeld=>?_)
   · (try dsimp only)
     exact ⟨hS.cell (p:=⟨bm,0,none⟩) hbm,hS.cell (p:=⟨bm,1,none⟩) hbm,hS.cell (p:=⟨bm,2,none⟩) hbm⟩
   clear hK K hS;try simp only [Act.put,lt,ly,lu]
   refine rd (i:=6) (h:=fun K hK=>?_)
   have y2_5:=hid (bS (bS b3.out b4.out) b5.out)
   have DBq23:=Ac' L2.out y2_5.out
   have q0:w5.cell? ⟨w1.heap.size,0,none⟩=some (.bool false):=cR _ _ _ _ _ _ DBq23
   have F0:w5.frozen? ⟨w1.heap.size,0,none⟩=false:=fR w5 (w1.heap.size) 0 _ _ DBq23
   have q1:w5.cell? ⟨w1.heap.size,1,none⟩=some (.slice none 0 0):=cR _ _ _ _ _ _ DBq23
   have F1:w5.frozen? ⟨w1.heap.size,1,none⟩=false:=fR w5 (w1.heap.size) 1 _ _ DBq23
   have q2:w5.cell? ⟨w1.heap.size,2,none⟩=some (.slice none 0 0):=cR _ _ _ _ _ _ DBq23
   have F2:w5.frozen? ⟨w1.heap.size,2,none⟩=false:=fR w5 (w1.heap.size) 2 _ _ DBq23
   go_simp
   clear q0 F0 q1 F1 q2 F2
   have hS:=y0_5.out
   have FV:=hid hv5.out
   have FB:=hid y0_5.out
   obtain ⟨w6,hw⟩:=eX ((((w5.setCell ⟨w1.heap.size,0,none⟩ (.bool (decide (q.num<0)))).setCell ⟨w1.heap.size,1,none⟩ (.slice C17 (Vx.len q.num.natAbs) j17)).setCell ⟨w1.heap.size,2,none⟩ (.slice C18 (Vx.len (below q.den)) j18)))
   obtain ⟨E,OT,LV,BL⟩:=As' DBq23 hw
   rw [←hw]
   clear hw
   have L6:=hid E
   have FB6:=hid (BL _ _ (by omega) FB.out)
   have HS6:=hid (BL _ _ (show w.heap.size≤w1.heap.size by omega) hS)
   have LKD6:=hid (OT _ _ (by omega) (Ac' hr.out y0_5.out))
   have KVD6:=hid (LV.box (hD.out.keep y0_5.out))
   have KVp6:=hid (LV.num hv5.out)
   refine hK.out _ _ ?_ (fun hHeld2=>?_)
   · (try dsimp only)
     exact ⟨(Aa' OT (by omega) (ltl hbm hS.size)).trans (hS.cell (p:=⟨bm,0,none⟩) hbm),(Aa' OT (by omega) (ltl hbm hS.size)).trans (hS.cell (p:=⟨bm,1,none⟩) hbm),(Aa' OT (by omega) (ltl hbm hS.size)).trans (hS.cell (p:=⟨bm,2,none⟩) hbm)⟩
   clear hK K hHeld hS OT LV BL FV FB E DBq23
   try simp only [Act.put,lt,ly,lu]
   have hHeld:=hHeld2
   clear hHeld2
   refine wpAnyH_done (by kernel_rfl) ?_ _
   clear hHeld
   have FB:=hid FB6.out
   go_wp2_with fail
   refine hG.out _ _ ?_
   exact CC LKD6.out KVD6.out sl.out sh.out L6.out KVp6.out sq.out hk.out (fun w' h=>hPo.out w' (Ae' FB.out h))
end Go.Proofs.YtcicfnlljdnagaaGreatDoor.Rf
