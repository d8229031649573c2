/-
  Contracts of the functions that the law calls, for every input (BoxJ BoxI Tg Ts).
-/
import Derived.Test.YtcicfnlljdnagaaGreatDoorY00
import Derived.Test.YtcicfnlljdnagaaGreatDoorY19
import Derived.Test.YtcicfnlljdnagaaGreatDoorY18
import Derived.Test.YtcicfnlljdnagaaGreatDoorY29
set_option linter.all false
set_option maxRecDepth 100000
set_option maxHeartbeats 40000000
namespace Go.Proofs.YtcicfnlljdnagaaGreatDoor
open Lib (hid)
open Go.RowKit
open Vx
theorem Cv {x y:Rat}:cmpQ x y≤0↔x≤y:=by
 constructor
 · intro h
   rcases Decidable.em (x≤y) with h2 | h2
   · exact h2
   · have:=D0' h2;omega
 · intro h
   have:=CH' h;omega
theorem Cl {w:World} {v vx:Value} {a b x:Rat} (hv:Aj w v a b) (hx:Ad' w vx x) (sa:Ab' a≤34359738368) (sb:Ab' b≤34359738368) (sx:Ab' x≤34359738368) :
   Calls Tryz.prog 14 #[v,vx] w (BF w (decide (a≤x∧x≤b))):=by
 obtain ⟨A1,c1,A2,c2,A3,c3,A4,c4,rfl,ha,hb_⟩:=hv.opened
 obtain ⟨A5,c5,A6,c6,rfl,-,-⟩:=id hx.opened
 obtain ⟨wB,hwB⟩:=eX ((w.alloc (.cells #[.bool (decide (a.num<0)),.slice A1 (len a.num.natAbs) c1,.slice A2 (len (below a.den)) c2,.bool (decide (b.num<0)),.slice A3 (len b.num.natAbs) c3,.slice A4 (len (below b.den)) c4] 34)).alloc (.cells #[.bool (decide (x.num<0)),.slice A5 (len x.num.natAbs) c5,.slice A6 (len (below x.den)) c6] 32))
 obtain ⟨b0,g0,g1⟩:=AA' hwB
 obtain ⟨k0,k1,k2,k3,k4,k5⟩:=Af g0
 obtain ⟨k6,k7,k8⟩:=Ae g1
 have HB0:=hid b0
 have hlt1:w.heap.size<wB.heap.size:=bL _ _ k0
 have hlt2:w.heap.size+1<wB.heap.size:=(gE.1 g1).1
 clear g0 g1 b0
 have HX:=hid (AT (ha.keep HB0.out) (hx.keep HB0.out) sa sx)
 have HY:=fun (w1:World) (hb:Below wB.heap.size wB w1)=>hid (AT ((hx.keep HB0.out).keep hb) ((hb_.keep HB0.out).keep hb) sx sb)
 obtain ⟨z1,hz1⟩:=eX (cmpQ a x:Int)
 obtain ⟨z2,hz2⟩:=eX (cmpQ x b:Int)
 have e1:(z1≤0)↔a≤x:=by rw [hz1];exact Cv
 have e2:(z2≤0)↔x≤b:=by rw [hz2];exact Cv
 rw [←hz1] at HX
 rw [←hz2] at HY
 obtain ⟨r,hr⟩:=eX (decide (a≤x∧x≤b):Bool)
 rw [←hr]
 clear hz1 hz2 sa sb sx hv ha hb_ hx
 rcases Decidable.em (z1≤0) with h1 | h1
 · rcases Decidable.em (z2≤0) with h2 | h2
   · have d1:decide (z1≤0)=true:=dT_ h1
     have d2:decide (z2≤0)=true:=dT_ h2
     have d3:r=true:=by rw [hr];exact dT_ ⟨e1.1 h1,e2.1 h2⟩
     subst d3
     replace h1:=hid h1
     replace h2:=hid h2
     clear hr e1 e2
     go_enter Tryz.func14,Tryz.ntmps14
     go_upto_region 1 with fail
     rw [←hwB]
     clear hwB
     go_wp2_with fail
     refine (HX.out).mono ?_
     rintro e w1 ⟨rfl,b1⟩
     have hbc:=Aq b1
     have HY1:=HY w1 b1
     have HB1:=hid (Go.Proofs.YtcicfnlljdnagaaGreatDoor.Ai HB0.out (Nat.le_of_lt hlt1) b1)
     clear HY HX b1
     go_wp2_with fail
     refine (HY1.out).mono ?_
     rintro e w2 ⟨rfl,b2⟩
     have HE:=hid (HB1.out.trans (b2.mono HB1.out.size))
     clear HY1 b2 hbc
     go_wp2_with fail
     go_ret
     exact ⟨rfl,HE.out⟩
   · have d1:decide (z1≤0)=true:=dT_ h1
     have d2:decide (z2≤0)=false:=dF_ h2
     have d3:r=false:=by rw [hr];exact dF_ (fun h=>h2 (e2.2 h.2))
     subst d3
     replace h1:=hid h1
     replace h2:=hid h2
     clear hr e1 e2
     go_enter Tryz.func14,Tryz.ntmps14
     go_upto_region 1 with fail
     rw [←hwB]
     clear hwB
     go_wp2_with fail
     refine (HX.out).mono ?_
     rintro e w1 ⟨rfl,b1⟩
     have hbc:=Aq b1
     have HY1:=HY w1 b1
     have HB1:=hid (Go.Proofs.YtcicfnlljdnagaaGreatDoor.Ai HB0.out (Nat.le_of_lt hlt1) b1)
     clear HY HX b1
     go_wp2_with fail
     refine (HY1.out).mono ?_
     rintro e w2 ⟨rfl,b2⟩
     have HE:=hid (HB1.out.trans (b2.mono HB1.out.size))
     clear HY1 b2 hbc
     go_wp2_with fail
     go_ret
     exact ⟨rfl,HE.out⟩
 · have d1:decide (z1≤0)=false:=dF_ h1
   have d2:r=false:=by rw [hr];exact dF_ (fun h=>h1 (e1.2 h.1))
   subst d2
   replace h1:=hid h1
   clear HY hr e1 e2
   go_enter Tryz.func14,Tryz.ntmps14
   go_upto_region 1 with fail
   rw [←hwB]
   clear hwB
   go_wp2_with fail
   refine (HX.out).mono ?_
   rintro e w1 ⟨rfl,b1⟩
   have HE:=hid (Go.Proofs.YtcicfnlljdnagaaGreatDoor.Ai HB0.out (Nat.le_of_lt hlt1) b1)
   clear HX b1
   go_wp2_with fail
   go_ret
   exact ⟨rfl,HE.out⟩
theorem FN' {w:World} {v0:Value} {v1:Value} {a b:Rat} {c d:Rat} (hv:Aj w v0 a b) (hu:Aj w v1 c d) (sa:Ab' a≤34359738368) (sb:Ab' b≤34359738368) (sc:Ab' c≤34359738368) (sd:Ab' d≤34359738368) :
   Calls Tryz.prog 17 #[v0,v1] w (AQ w (a+c) (b+d)):=by
 obtain ⟨A1,c1,A2,c2,A3,c3,A4,c4,rfl,ha,hb⟩:=hv.opened
 obtain ⟨A5,c5,A6,c6,A7,c7,A8,c8,rfl,hc,hd⟩:=hu.opened
 obtain ⟨wB,hwB⟩:=eX (((w.alloc (.cells #[.bool (decide (a.num<0)),.slice A1 (len a.num.natAbs) c1,.slice A2 (len (below a.den)) c2,.bool (decide (b.num<0)),.slice A3 (len b.num.natAbs) c3,.slice A4 (len (below b.den)) c4] 34)).alloc (.cells #[.bool (decide (c.num<0)),.slice A5 (len c.num.natAbs) c5,.slice A6 (len (below c.den)) c6,.bool (decide (d.num<0)),.slice A7 (len d.num.natAbs) c7,.slice A8 (len (below d.den)) c8] 34)).alloc (.cells #[.bool false,.slice none 0 0,.slice none 0 0,.bool false,.slice none 0 0,.slice none 0 0] 34))
 obtain ⟨b0,g0,g1,g2⟩:=AD hwB
 obtain ⟨k0,k1,k2,k3,k4,k5⟩:=Af g0
 obtain ⟨k6,k7,k8,k9,k10,k11⟩:=Af g1
 have HK0:=hid (Ak'.start (T:=34) rfl BW g2)
 have HB0:=hid b0
 have hlt1:w.heap.size<w.heap.size+2:=by omega
 have hlt2:w.heap.size+1<w.heap.size+2:=by omega
 clear g0 g1 g2 b0
 obtain ⟨qq,eq⟩:=eX (a+c:Rat)
 obtain ⟨rr,er⟩:=eX (b+d:Rat)
 have HX:=fun (w':World) (hk:An' wB (w.heap.size+2) wB w')=>hid (CP (hk.stay.num (ha.keep HB0.out)) (hk.stay.num (hc.keep HB0.out)) sa sc)
 have HY:=fun (w':World) (hk:An' wB (w.heap.size+2) wB w')=>hid (CP (hk.stay.num (hb.keep HB0.out)) (hk.stay.num (hd.keep HB0.out)) sb sd)
 rw [←eq] at HX ⊢
 rw [←er] at HY ⊢
 have H0:=HK0.out.begin6
 have H0':=H0
 unfold An' at H0'
 clear eq er hv ha hb hu hc hd sa sb sc sd
 go_enter Tryz.func17,Tryz.ntmps17
 go_upto_region 1 with fail
 rw [←hwB]
 clear hwB
 go_wp2_with fail
 go_region_held3 (fun w'=>(∀ b o,b<w.heap.size+2→w'.cell? ⟨b,o,none⟩=wB.cell? ⟨b,o,none⟩)∧w'.cell? ⟨w.heap.size+2,0,none⟩=some (cur w' ⟨w.heap.size+2,0,none⟩)∧w'.cell? ⟨w.heap.size+2,1,none⟩=some (cur w' ⟨w.heap.size+2,1,none⟩)∧w'.cell? ⟨w.heap.size+2,2,none⟩=some (cur w' ⟨w.heap.size+2,2,none⟩)∧w'.cell? ⟨w.heap.size+2,3,none⟩=some (cur w' ⟨w.heap.size+2,3,none⟩)∧w'.cell? ⟨w.heap.size+2,4,none⟩=some (cur w' ⟨w.heap.size+2,4,none⟩)∧w'.cell? ⟨w.heap.size+2,5,none⟩=some (cur w' ⟨w.heap.size+2,5,none⟩)∧w'.frozen? ⟨w.heap.size+2,0,none⟩=false∧w'.frozen? ⟨w.heap.size+2,1,none⟩=false∧w'.frozen? ⟨w.heap.size+2,2,none⟩=false∧w'.frozen? ⟨w.heap.size+2,3,none⟩=false∧w'.frozen? ⟨w.heap.size+2,4,none⟩=false∧w'.frozen? ⟨w.heap.size+2,5,none⟩=false∧Ak' 6 34 wB (w.heap.size+2) w'∧Aj' wB w')
   (first | with_reducible exact H0' | with_reducible exact hk1' | with_reducible exact hk2' | exact hk2.store)
   (first | (go_at_call 12;refine ((HY _ hk1).out).mono ?_;rintro e w2 ⟨v2,rfl,hv2,hbl2⟩;obtain ⟨C3,j3,C4,j4,rfl,-,-⟩:=id hv2.opened;have hk2:=hk1.call hbl2;have hk2':=hk2;unfold An' at hk2') | (go_at_call 12;refine ((HX _ H0).out).mono ?_;rintro e w1 ⟨v1,rfl,hv1,hbl1⟩;obtain ⟨C1,j1,C2,j2,rfl,-,-⟩:=id hv1.opened;have hk1:=H0.call hbl1;have hk1':=hk1;unfold An' at hk1'))
 rename_i hHl
 clear hHl
 have hv1':=hv1.keep hbl2
 have HD:=hk2.done (p:=qq) (q:=rr) (s1:=decide (qq.num<0)) (A1:=C1) (n1:=len qq.num.natAbs) (c1:=j1) (A2:=C2) (n2:=len (below qq.den)) (c2:=j2) (s2:=decide (rr.num<0)) (A3:=C3) (n3:=len rr.num.natAbs) (c3:=j3) (A4:=C4) (n4:=len (below rr.den)) (c4:=j4) (hv1') (hv2)
 obtain ⟨d1,d2,d3⟩:=HD
 obtain ⟨r0,r1,r2,r3,r4,r5⟩:=Af d3
 have HD:=hid (And.intro d1 d2)
 clear d1 d2 d3
 go_wp2_with fail
 refine bP (v:=.agg #[.bool (decide (qq.num<0)),.slice (C1) (len qq.num.natAbs) (j1),.slice (C2) (len (below qq.den)) (j2),.bool (decide (rr.num<0)),.slice (C3) (len rr.num.natAbs) (j3),.slice (C4) (len (below rr.den)) (j4)]) ?_ rfl ⟨_,rfl,HD.out.1,Ai HB0.out (by omega) HD.out.2⟩
 simp [results,Tryz.results17,go_sem,r0,r1,r2,r3,r4,r5]
theorem FO {w:World} {v0:Value} {a b:Rat} (hv:Aj w v0 a b) (sa:Ab' a≤34359738368) (sb:Ab' b≤34359738368) :
   Calls Tryz.prog 20 #[v0] w (AQ w (-b) (-a)):=by
 obtain ⟨A1,c1,A2,c2,A3,c3,A4,c4,rfl,ha,hb⟩:=hv.opened
 obtain ⟨wB,hwB⟩:=eX ((w.alloc (.cells #[.bool (decide (a.num<0)),.slice A1 (len a.num.natAbs) c1,.slice A2 (len (below a.den)) c2,.bool (decide (b.num<0)),.slice A3 (len b.num.natAbs) c3,.slice A4 (len (below b.den)) c4] 34)).alloc (.cells #[.bool false,.slice none 0 0,.slice none 0 0,.bool false,.slice none 0 0,.slice none 0 0] 34))
 obtain ⟨b0,g0,g1⟩:=AA' hwB
 obtain ⟨k0,k1,k2,k3,k4,k5⟩:=Af g0
 have HK0:=hid (Ak'.start (T:=34) rfl BW g1)
 have HB0:=hid b0
 have hlt1:w.heap.size<w.heap.size+1:=by omega
 clear g0 g1 b0
 obtain ⟨qq,eq⟩:=eX (-b:Rat)
 obtain ⟨rr,er⟩:=eX (-a:Rat)
 have HX:=fun (w':World) (hk:An' wB (w.heap.size+1) wB w')=>hid (DK (hk.stay.num (hb.keep HB0.out)) (nT sb (by omega)))
 have HY:=fun (w':World) (hk:An' wB (w.heap.size+1) wB w')=>hid (DK (hk.stay.num (ha.keep HB0.out)) (nT sa (by omega)))
 rw [←eq] at HX ⊢
 rw [←er] at HY ⊢
 have H0:=HK0.out.begin6
 have H0':=H0
 unfold An' at H0'
 clear eq er hv ha hb sa sb
 go_enter Tryz.func20,Tryz.ntmps20
 go_upto_region 1 with fail
 rw [←hwB]
 clear hwB
 go_wp2_with fail
 go_region_held3 (fun w'=>(∀ b o,b<w.heap.size+1→w'.cell? ⟨b,o,none⟩=wB.cell? ⟨b,o,none⟩)∧w'.cell? ⟨w.heap.size+1,0,none⟩=some (cur w' ⟨w.heap.size+1,0,none⟩)∧w'.cell? ⟨w.heap.size+1,1,none⟩=some (cur w' ⟨w.heap.size+1,1,none⟩)∧w'.cell? ⟨w.heap.size+1,2,none⟩=some (cur w' ⟨w.heap.size+1,2,none⟩)∧w'.cell? ⟨w.heap.size+1,3,none⟩=some (cur w' ⟨w.heap.size+1,3,none⟩)∧w'.cell? ⟨w.heap.size+1,4,none⟩=some (cur w' ⟨w.heap.size+1,4,none⟩)∧w'.cell? ⟨w.heap.size+1,5,none⟩=some (cur w' ⟨w.heap.size+1,5,none⟩)∧w'.frozen? ⟨w.heap.size+1,0,none⟩=false∧w'.frozen? ⟨w.heap.size+1,1,none⟩=false∧w'.frozen? ⟨w.heap.size+1,2,none⟩=false∧w'.frozen? ⟨w.heap.size+1,3,none⟩=false∧w'.frozen? ⟨w.heap.size+1,4,none⟩=false∧w'.frozen? ⟨w.heap.size+1,5,none⟩=false∧Ak' 6 34 wB (w.heap.size+1) w'∧Aj' wB w')
   (first | with_reducible exact H0' | with_reducible exact hk1' | with_reducible exact hk2' | exact hk2.store)
   (first | (go_at_call 50;refine ((HY _ hk1).out).mono ?_;rintro e w2 ⟨v2,rfl,hv2,hbl2⟩;obtain ⟨C3,j3,C4,j4,rfl,-,-⟩:=id hv2.opened;have hk2:=hk1.call hbl2;have hk2':=hk2;unfold An' at hk2') | (go_at_call 50;refine ((HX _ H0).out).mono ?_;rintro e w1 ⟨v1,rfl,hv1,hbl1⟩;obtain ⟨C1,j1,C2,j2,rfl,-,-⟩:=id hv1.opened;have hk1:=H0.call hbl1;have hk1':=hk1;unfold An' at hk1'))
 rename_i hHl
 clear hHl
 have hv1':=hv1.keep hbl2
 have HD:=hk2.done (p:=qq) (q:=rr) (s1:=decide (qq.num<0)) (A1:=C1) (n1:=len qq.num.natAbs) (c1:=j1) (A2:=C2) (n2:=len (below qq.den)) (c2:=j2) (s2:=decide (rr.num<0)) (A3:=C3) (n3:=len rr.num.natAbs) (c3:=j3) (A4:=C4) (n4:=len (below rr.den)) (c4:=j4) (hv1') (hv2)
 obtain ⟨d1,d2,d3⟩:=HD
 obtain ⟨r0,r1,r2,r3,r4,r5⟩:=Af d3
 have HD:=hid (And.intro d1 d2)
 clear d1 d2 d3
 go_wp2_with fail
 refine bP (v:=.agg #[.bool (decide (qq.num<0)),.slice (C1) (len qq.num.natAbs) (j1),.slice (C2) (len (below qq.den)) (j2),.bool (decide (rr.num<0)),.slice (C3) (len rr.num.natAbs) (j3),.slice (C4) (len (below rr.den)) (j4)]) ?_ rfl ⟨_,rfl,HD.out.1,Ai HB0.out (by omega) HD.out.2⟩
 simp [results,Tryz.results20,go_sem,r0,r1,r2,r3,r4,r5]
theorem EQ {w:World} {v:Value} {a b:Rat} (hv:Aj w v a b) (sa:Ab' a≤34359738368) (sb:Ab' b≤34359738368) :
   Calls Tryz.prog 39 #[v] w (Ao' w (b - a)):=by
 obtain ⟨A1,c1,A2,c2,A3,c3,A4,c4,rfl,ha,hb⟩:=hv.opened
 obtain ⟨wB,hwB⟩:=eX ((w.alloc (.cells #[.bool (decide (a.num<0)),.slice A1 (len a.num.natAbs) c1,.slice A2 (len (below a.den)) c2,.bool (decide (b.num<0)),.slice A3 (len b.num.natAbs) c3,.slice A4 (len (below b.den)) c4] 34)).alloc (.cells #[.bool false,.slice none 0 0,.slice none 0 0] 32))
 obtain ⟨b0,g0,g1⟩:=AA' hwB
 obtain ⟨k0,k1,k2,k3,k4,k5⟩:=Af g0
 have HK0:=hid (Ak'.start (T:=32) rfl (AK' _ _ _ _ _ _ _) g1)
 have HB0:=hid b0
 have hlt1:w.heap.size<w.heap.size+1:=by omega
 clear g0 g1 b0
 obtain ⟨q,hq⟩:=eX (b - a:Rat)
 have HX:=hid (DK' (hb.keep HB0.out) (ha.keep HB0.out) sb sa)
 rw [←hq] at HX ⊢
 clear hq sa sb hv ha hb
 go_enter Tryz.func39,Tryz.ntmps39
 go_upto_region 1 with fail
 rw [←hwB]
 clear hwB
 go_wp2_with fail
 refine (HX.out).mono ?_
 rintro e w5 ⟨v5,rfl,hv5,b5⟩
 obtain ⟨C1,j1,C2,j2,rfl,-,-⟩:=hv5.opened
 have hk:=(HK0.out.call b5).held (Aj'.refl _)
 clear b5 HX
 obtain ⟨-,c0,c1',c2',f0,f1,f2,-⟩:=id hk
 have HD:=hk.done (q:=q) (b:=decide (q.num<0)) (A1:=C1) (n1:=len q.num.natAbs) (c1:=j1) (A2:=C2) (n2:=len (below q.den)) (c2:=j2) (hv5)
 obtain ⟨d1,d2,d3⟩:=HD
 obtain ⟨r0,r1,r2⟩:=Ae d3
 have HD:=hid (And.intro d1 d2)
 clear d1 d2 d3
 go_wp2_with fail
 refine bP (v:=.agg #[.bool (decide (q.num<0)),.slice (C1) (len q.num.natAbs) (j1),.slice (C2) (len (below q.den)) (j2)]) ?_ rfl ⟨_,rfl,HD.out.1,Ai HB0.out (by omega) HD.out.2⟩
 simp [results,Tryz.results39,go_sem,r0,r1,r2]
end Go.Proofs.YtcicfnlljdnagaaGreatDoor
namespace Go.Proofs.YtcicfnlljdnagaaGreatDoor.Rf
open Lib (hid)
open Go.RowKit
open Rx
open Vx (Ab' Ah Ah')
open List renaming getElem?_toArray → lg, getElem?_cons_zero → lz, getElem?_cons_succ → ls, setIfInBounds_toArray → lt, set_cons_zero → ly, set_cons_succ → lu
theorem CU' {x y:Rat}:cmpQ x y=0↔x=y:=by
 unfold cmpQ
 rcases Decidable.em (x<y) with h | h
 · rw [if_pos h];exact ⟨fun a=>absurd a (by decide),fun a=>absurd (a ▸ h) (Rat.lt_irrefl)⟩
 · rw [if_neg h]
   rcases Decidable.em (x=y) with k | k
   · rw [if_pos k];exact ⟨fun _=>k,fun _=>rfl⟩
   · rw [if_neg k];exact ⟨fun a=>absurd a (by decide),fun a=>absurd a k⟩
theorem EQ' {w:World} {vx vy:Value} {a b c d:Rat} {r:Bool} (hr:decide (a=c∧b=d)=r) (hx:Aj w vx a b) (hy:Aj w vy c d) (sa:Ab' a≤16777216) (sb:Ab' b≤16777216) (sc:Ab' c≤16777216) (sd:Ab' d≤16777216) :
   Calls Tryz.prog 18 #[vx,vy] w (BF w r):=by
 obtain ⟨c1,e1⟩:=eY (cmpQ a c:Int)
 obtain ⟨c2,e2⟩:=eY (cmpQ b d:Int)
 have ta:Ab' a≤536870912:=by omega
 have tb:Ab' b≤536870912:=by omega
 have tc:Ab' c≤536870912:=by omega
 have td:Ab' d≤536870912:=by omega
 clear sa sb sc sd
 replace ta:=hid ta
 replace tb:=hid tb
 replace tc:=hid tc
 replace td:=hid td
 rcases Decidable.em (a=c) with h | h
 · have d1:(c1==0)=true:=by rw [←e1];exact beq_iff_eq.2 (CU'.2 h)
   have d2:(c2==0)=r:=by
     rw [←hr,←e2,Bool.eq_iff_iff,beq_iff_eq,decide_eq_true_iff]
     exact ⟨fun k=>⟨h,CU'.1 k⟩,fun k=>CU'.2 k.2⟩
   replace e1:=hid e1
   replace e2:=hid e2
   clear h hr
   obtain ⟨C1,j1,C2,j2,C3,j3,C4,j4,rfl,hxl,hxh⟩:=id hx.opened
   replace hx:=hid hx
   replace hxl:=hid hxl
   replace hxh:=hid hxh
   obtain ⟨C5,j5,C6,j6,C7,j7,C8,j8,rfl,hyl,hyh⟩:=id hy.opened
   replace hy:=hid hy
   replace hyl:=hid hyl
   replace hyh:=hid hyh
   obtain ⟨w1,hw1⟩:=eX (((w.alloc (.cells #[.bool (decide (a.num<0)),.slice C1 (Vx.len a.num.natAbs) j1,.slice C2 (Vx.len (below a.den)) j2,.bool (decide (b.num<0)),.slice C3 (Vx.len b.num.natAbs) j3,.slice C4 (Vx.len (below b.den)) j4] 34)).alloc (.cells #[.bool (decide (c.num<0)),.slice C5 (Vx.len c.num.natAbs) j5,.slice C6 (Vx.len (below c.den)) j6,.bool (decide (d.num<0)),.slice C7 (Vx.len d.num.natAbs) j7,.slice C8 (Vx.len (below d.den)) j8] 34)))
   obtain ⟨b1,g1,g2⟩:=AA' hw1
   replace g1:=hid g1
   replace g2:=hid g2
   replace b1:=hid b1
   go_enter Tryz.func18,Tryz.ntmps18
   go_upto_region 1 with fail
   rw [←hw1]
   clear hw1
   have hg:w1.heap[w.heap.size]?=some (.cells #[.bool (decide (a.num<0)),.slice C1 (Vx.len a.num.natAbs) j1,.slice C2 (Vx.len (below a.den)) j2,.bool (decide (b.num<0)),.slice C3 (Vx.len b.num.natAbs) j3,.slice C4 (Vx.len (below b.den)) j4] 34 (0,0)):=((Below.refl _ w1).block _ (gE.1 g1.out).1).trans g1.out
   obtain ⟨z_x_0,z_x_1,z_x_2,z_x_3,z_x_4,z_x_5⟩:=Af hg
   clear hg
   have hg:w1.heap[w.heap.size+1]?=some (.cells #[.bool (decide (c.num<0)),.slice C5 (Vx.len c.num.natAbs) j5,.slice C6 (Vx.len (below c.den)) j6,.bool (decide (d.num<0)),.slice C7 (Vx.len d.num.natAbs) j7,.slice C8 (Vx.len (below d.den)) j8] 34 (0,0)):=((Below.refl _ w1).block _ (gE.1 g2.out).1).trans g2.out
   obtain ⟨z_y_0,z_y_1,z_y_2,z_y_3,z_y_4,z_y_5⟩:=Af hg
   clear hg
   have HX:=hid (Ba' e1.out (hxl.out.keep b1.out) (hyl.out.keep b1.out) ta.out tc.out)
   go_wp2_with fail
   refine (HX.out).mono ?_
   rintro e w2 ⟨rfl,b2⟩
   replace b2:=hid b2
   clear HX
   clear z_x_0 z_x_1 z_x_2 z_x_3 z_x_4 z_x_5 z_y_0 z_y_1 z_y_2 z_y_3 z_y_4 z_y_5
   have hg:w2.heap[w.heap.size]?=some (.cells #[.bool (decide (a.num<0)),.slice C1 (Vx.len a.num.natAbs) j1,.slice C2 (Vx.len (below a.den)) j2,.bool (decide (b.num<0)),.slice C3 (Vx.len b.num.natAbs) j3,.slice C4 (Vx.len (below b.den)) j4] 34 (0,0)):=(b2.out.block _ (gE.1 g1.out).1).trans g1.out
   obtain ⟨z_x_0,z_x_1,z_x_2,z_x_3,z_x_4,z_x_5⟩:=Af hg
   clear hg
   have hg:w2.heap[w.heap.size+1]?=some (.cells #[.bool (decide (c.num<0)),.slice C5 (Vx.len c.num.natAbs) j5,.slice C6 (Vx.len (below c.den)) j6,.bool (decide (d.num<0)),.slice C7 (Vx.len d.num.natAbs) j7,.slice C8 (Vx.len (below d.den)) j8] 34 (0,0)):=(b2.out.block _ (gE.1 g2.out).1).trans g2.out
   obtain ⟨z_y_0,z_y_1,z_y_2,z_y_3,z_y_4,z_y_5⟩:=Af hg
   clear hg
   have HX:=hid (Ba' e2.out (hxh.out.keep (bS b1.out b2.out)) (hyh.out.keep (bS b1.out b2.out)) tb.out td.out)
   go_wp2_with fail
   refine (HX.out).mono ?_
   rintro e w3 ⟨rfl,b3⟩
   replace b3:=hid b3
   clear HX
   clear z_x_0 z_x_1 z_x_2 z_x_3 z_x_4 z_x_5 z_y_0 z_y_1 z_y_2 z_y_3 z_y_4 z_y_5
   have HE:=hid (bS (bS b1.out b2.out) b3.out)
   go_wp2_with fail
   go_ret
   exact ⟨rfl,HE.out⟩
 · have d1:(c1==0)=false:=by rw [←e1];exact beq_eq_false_iff_ne.2 (fun k=>h (CU'.1 k))
   have d2:r=false:=by rw [←hr];exact dF_ (fun k=>h k.1)
   subst d2
   replace e1:=hid e1
   clear h hr e2
   obtain ⟨C9,j9,C10,j10,C11,j11,C12,j12,rfl,hxl,hxh⟩:=id hx.opened
   replace hx:=hid hx
   replace hxl:=hid hxl
   replace hxh:=hid hxh
   obtain ⟨C13,j13,C14,j14,C15,j15,C16,j16,rfl,hyl,hyh⟩:=id hy.opened
   replace hy:=hid hy
   replace hyl:=hid hyl
   replace hyh:=hid hyh
   obtain ⟨w1,hw1⟩:=eX (((w.alloc (.cells #[.bool (decide (a.num<0)),.slice C9 (Vx.len a.num.natAbs) j9,.slice C10 (Vx.len (below a.den)) j10,.bool (decide (b.num<0)),.slice C11 (Vx.len b.num.natAbs) j11,.slice C12 (Vx.len (below b.den)) j12] 34)).alloc (.cells #[.bool (decide (c.num<0)),.slice C13 (Vx.len c.num.natAbs) j13,.slice C14 (Vx.len (below c.den)) j14,.bool (decide (d.num<0)),.slice C15 (Vx.len d.num.natAbs) j15,.slice C16 (Vx.len (below d.den)) j16] 34)))
   obtain ⟨b1,g1,g2⟩:=AA' hw1
   replace g1:=hid g1
   replace g2:=hid g2
   replace b1:=hid b1
   go_enter Tryz.func18,Tryz.ntmps18
   go_upto_region 1 with fail
   rw [←hw1]
   clear hw1
   have hg:w1.heap[w.heap.size]?=some (.cells #[.bool (decide (a.num<0)),.slice C9 (Vx.len a.num.natAbs) j9,.slice C10 (Vx.len (below a.den)) j10,.bool (decide (b.num<0)),.slice C11 (Vx.len b.num.natAbs) j11,.slice C12 (Vx.len (below b.den)) j12] 34 (0,0)):=((Below.refl _ w1).block _ (gE.1 g1.out).1).trans g1.out
   obtain ⟨z_x_0,z_x_1,z_x_2,z_x_3,z_x_4,z_x_5⟩:=Af hg
   clear hg
   have hg:w1.heap[w.heap.size+1]?=some (.cells #[.bool (decide (c.num<0)),.slice C13 (Vx.len c.num.natAbs) j13,.slice C14 (Vx.len (below c.den)) j14,.bool (decide (d.num<0)),.slice C15 (Vx.len d.num.natAbs) j15,.slice C16 (Vx.len (below d.den)) j16] 34 (0,0)):=((Below.refl _ w1).block _ (gE.1 g2.out).1).trans g2.out
   obtain ⟨z_y_0,z_y_1,z_y_2,z_y_3,z_y_4,z_y_5⟩:=Af hg
   clear hg
   have HX:=hid (Ba' e1.out (hxl.out.keep b1.out) (hyl.out.keep b1.out) ta.out tc.out)
   go_wp2_with fail
   refine (HX.out).mono ?_
   rintro e w2 ⟨rfl,b2⟩
   replace b2:=hid b2
   clear HX
   clear z_x_0 z_x_1 z_x_2 z_x_3 z_x_4 z_x_5 z_y_0 z_y_1 z_y_2 z_y_3 z_y_4 z_y_5
   have HE:=hid (bS b1.out b2.out)
   go_wp2_with fail
   go_ret
   exact ⟨rfl,HE.out⟩
theorem At' {w u:World} {o:Obj} (h:u=w.alloc o):u.heap[w.heap.size]?=some o:=h ▸ hA_ w o
theorem Ar {w u:World} {o:Obj} (h:u=w.alloc o):Below w.heap.size w u:=h ▸ An w o
theorem CV {w u:World} {o1 o2:Obj} (h:u=(w.alloc o1).alloc o2):Below w.heap.size w u∧u.heap[w.heap.size]?=some o1∧u.heap[w.heap.size+1]?=some o2:=h ▸ DJ' w o1 o2
end Go.Proofs.YtcicfnlljdnagaaGreatDoor.Rf
