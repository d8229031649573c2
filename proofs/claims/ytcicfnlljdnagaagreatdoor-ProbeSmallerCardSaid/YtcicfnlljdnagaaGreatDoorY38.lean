/-
  Contracts of the functions that the law calls, for every input (Qu Qv Qw Va Vd).
-/
import Derived.Test.YtcicfnlljdnagaaGreatDoorY00
import Derived.Test.YtcicfnlljdnagaaGreatDoorY37
import Derived.Test.YtcicfnlljdnagaaGreatDoorY19
import Derived.Test.YtcicfnlljdnagaaGreatDoorY29
import Derived.Test.YtcicfnlljdnagaaGreatDoorY10
import Derived.Test.YtcicfnlljdnagaaGreatDoorY30
import Derived.Deep.LoopGhost
set_option linter.all false
set_option maxRecDepth 100000
set_option maxHeartbeats 40000000
namespace Go.Proofs.YtcicfnlljdnagaaGreatDoor.Rf
open Lib (hid)
open Go.RowKit
open Rx
open Vx (Ab' Ah Ah')
open List renaming getElem?_toArray → lg, getElem?_cons_zero → lz, getElem?_cons_succ → ls, setIfInBounds_toArray → lt, set_cons_zero → ly, set_cons_succ → lu
theorem Ea' {w:World} {a b r m s x z lo hi:Rat} {rb ro c n n1 bm mp pp:Nat} {l:List Rat} {A7 B7 P1 P2 P3 Q1 Q2 Q3:Option Addr} {c7 d7 p1 p2 p3 q1 q2 q3:Nat} {A4 B4:Option Addr} {c4 d4:Nat} {y0 y2 y3 y5 y8 y9 y10 y13 y14 y15 y16 y17 y18 y19 y20 y21 y22 y23 y24 y25 y26 y27 y28 y29 y30 y31 y32 y33 y34 y35 y36 y37 y38 y39 y40 y41 y42 y43 y44 y45 y46 y47 y48 y49 y50 y51 y52 y53 y54 y55 y56 y57 y58 y59 y60 y61 y62 y63 y64 y65 y66 y67 y68:Value} {k:Int} {Po:Ending→World→Prop} (hl:AX w rb ro l) (hz:l[n]?=some z) (hx0:l[0]?=some x) (hn1:n1=n+1) (hn2:n≤200) (hm:w.heap[bm]?=some (.cells #[.bool (decide (s.num<0)),.slice A4 (Vx.len s.num.natAbs) c4,.slice B4 (Vx.len (below s.den)) d4] 32 (0,0))) (hM:Ad' w (.agg #[.bool (decide (s.num<0)),.slice A4 (Vx.len s.num.natAbs) c4,.slice B4 (Vx.len (below s.den)) d4]) s) (sm:Ab' s≤900000) (hA:w.heap[mp]?=some (.cells #[.bool (decide (m.num<0)),.slice A7 (Vx.len m.num.natAbs) c7,.slice B7 (Vx.len (below m.den)) d7] 32 (0,0))) (hAn:Ad' w (.agg #[.bool (decide (m.num<0)),.slice A7 (Vx.len m.num.natAbs) c7,.slice B7 (Vx.len (below m.den)) d7]) m) (hPp:w.heap[pp]?=some (.cells #[.bool (decide (a.num<0)),.slice P1 (Vx.len a.num.natAbs) p1,.slice Q1 (Vx.len (below a.den)) q1,.bool (decide (b.num<0)),.slice P2 (Vx.len b.num.natAbs) p2,.slice Q2 (Vx.len (below b.den)) q2,.bool (decide (r.num<0)),.slice P3 (Vx.len r.num.natAbs) p3,.slice Q3 (Vx.len (below r.den)) q3] 71 (0,0))) (hPn:Ad' w (.agg #[.bool (decide (r.num<0)),.slice P3 (Vx.len r.num.natAbs) p3,.slice Q3 (Vx.len (below r.den)) q3]) r) (sz:Ab' z≤1000000) (sx:Ab' x≤1000000) (sA:Ab' m≤1000000) (sr:Ab' r≤1000000) (hr0:0≤r) (h0:¬ (x - m - r≤0∧0≤x - m+r)) (el:leastOf ((z - m - r) / (x - m - r)) [(z - m - r) / (x - m+r),(z - m+r) / (x - m - r),(z - m+r) / (x - m+r)]=lo) (eh:greatestOf ((z - m - r) / (x - m - r)) [(z - m - r) / (x - m+r),(z - m+r) / (x - m - r),(z - m+r) / (x - m+r)]=hi) (hk:(if (1 - s)^n≤lo then 1 else if hi<(1 - s)^n then 2 else 3)=k) (hPo:∀ w',Below w.heap.size w w'→Po (.returned (.tuple #[.int .u8 k,.int .i64 0])) w') :
   (codeAt 5 Tryz.f38).wp Tryz.prog (bodyPost Tryz.prog Tryz.f38 Po) { tmps:=#[y0,.slice (some ⟨rb,ro,none⟩) n1 c,y2,y3,.pointer (some ⟨pp,0,none⟩),y5,.pointer (some ⟨mp,0,none⟩),.pointer (some ⟨bm,0,none⟩),y8,y9,y10,.int .i64 ((n:Nat):Int),.func (.func 73) #[] #[.pointer (some ⟨mp,0,none⟩),.pointer (some ⟨pp,0,none⟩)],y13,y14,y15,y16,y17,y18,y19,y20,y21,y22,y23,y24,y25,y26,y27,y28,y29,y30,y31,y32,y33,y34,y35,y36,y37,y38,y39,y40,y41,y42,y43,y44,y45,y46,y47,y48,y49,y50,y51,y52,y53,y54,y55,y56,y57,y58,y59,y60,y61,y62,y63,y64,y65,y66,y67,y68],defers:=[] } w:=by
 obtain ⟨A5,c5,B5,d5,e0,e1,e2,hx⟩:=hl.at (i:=n) hz
 obtain ⟨A6,c6,B6,d6,f0,f1,f2,hy⟩:=hl.at (i:=0) hx0
 simp only [Nat.zero_mul,Nat.add_zero] at f0 f1 f2
 have hrb:=bL w _ f0
 have hnl:n<n1:=by omega
 have hn0:0<n1:=by omega
 obtain ⟨l0,el0⟩:=eY (z - m - r:Rat)
 obtain ⟨l1,el1⟩:=eY (z - m+r:Rat)
 obtain ⟨g0,eg0⟩:=eY (x - m - r:Rat)
 obtain ⟨g1,eg1⟩:=eY (x - m+r:Rat)
 rw [eg0,eg1] at h0
 rw [el0,el1,eg0,eg1] at el eh
 have a1:=Vx.AF' z m
 have a2:=Vx.AF' (z - m) r
 have a3:=Vx.AM (z - m) r
 have a4:=Vx.AF' x m
 have a5:=Vx.AF' (x - m) r
 have a6:=Vx.AM (x - m) r
 rw [el0] at a2
 rw [el1] at a3
 rw [eg0] at a5
 rw [eg1] at a6
 have t1:Ab' l0≤4000000:=by omega
 have t2:Ab' l1≤4000000:=by omega
 have t3:Ab' g0≤4000000:=by omega
 have t4:Ab' g1≤4000000:=by omega
 have sl:Ab' lo≤16777216∧Ab' hi≤16777216:=by
   have hL:=A7' (l0 / g0) [l0 / g1,l1 / g0,l1 / g1]
   have hG:=AN (l0 / g0) [l0 / g1,l1 / g0,l1 / g1]
   rw [el] at hL
   rw [eh] at hG
   have all:∀ q∈l0 / g0::[l0 / g1,l1 / g0,l1 / g1],Ab' q≤16777216:=by
     intro q hq
     simp only [List.mem_cons,List.not_mem_nil,or_false] at hq
     have b1:=Vx.AU l0 g0
     have b2:=Vx.AU l0 g1
     have b3:=Vx.AU l1 g0
     have b4:=Vx.AU l1 g1
     rcases hq with rfl | rfl | rfl | rfl <;> omega
   exact ⟨all _ hL.1,all _ hG.1⟩
 clear a1 a2 a3 a4 a5 a6 hz hx0
 replace el0:=hid el0
 replace el1:=hid el1
 replace eg0:=hid eg0
 replace eg1:=hid eg1
 replace el:=hid el
 replace eh:=hid eh
 replace h0:=hid h0
 replace t1:=hid t1
 replace t2:=hid t2
 replace t3:=hid t3
 replace t4:=hid t4
 replace sl:=hid sl
 replace hx:=hid hx
 replace hy:=hid hy
 replace hl:=hid hl
 replace hm:=hid hm
 replace hM:=hid hM
 replace sm:=hid sm
 replace hA:=hid hA
 replace hAn:=hid hAn
 replace hPp:=hid hPp
 replace hPn:=hid hPn
 replace sz:=hid sz
 replace sx:=hid sx
 replace sA:=hid sA
 replace sr:=hid sr
 replace hk:=hid hk
 replace hPo:=hid hPo
 replace hr0:=hid hr0
 replace hn1:=hid hn1

 show Code.wp _ (Code.seq _ _) _ _ _
 go_upto_region 8 with fail
 rename_i G hG
 replace hG:=hid hG
 go_wp2_with fail
 refine wp_region_held_drew (S:=(fun w'=>(w'.cell? ⟨rb,ro+n*3,none⟩=w.cell? ⟨rb,ro+n*3,none⟩∧w'.cell? ⟨rb,ro+n*3+1,none⟩=w.cell? ⟨rb,ro+n*3+1,none⟩∧w'.cell? ⟨rb,ro+n*3+2,none⟩=w.cell? ⟨rb,ro+n*3+2,none⟩∧w'.cell? ⟨rb,ro,none⟩=w.cell? ⟨rb,ro,none⟩∧w'.cell? ⟨rb,ro+1,none⟩=w.cell? ⟨rb,ro+1,none⟩∧w'.cell? ⟨rb,ro+2,none⟩=w.cell? ⟨rb,ro+2,none⟩))) (by kernel_rfl) ?_ (fun hHeld=>?_)
 · (try dsimp only)
   exact ⟨rfl,rfl,rfl,rfl,rfl,rfl⟩
 obtain ⟨w1,hw1⟩:=eX w.drew
 have b1:Hid (Below w.heap.size w w1):=hid (by rw [hw1];exact ⟨rfl,rfl,rfl,nL _,fun _ _=>rfl⟩)
 rw [←hw1] at hHeld ⊢
 clear hw1
 have lbW:w.heap.size≤w1.heap.size:=b1.out.size
 have lbS:w.heap.size≤w1.heap.size:=b1.out.size
 have lc_lim:bm<w1.heap.size:=Af' (Ac' hm.out b1.out)
 refine tk (i:=0) (h:=?_)
 try simp only [Act.put,lt,ly,lu]
 refine tk (i:=1) (h:=?_)
 try simp only [Act.put,lt,ly,lu]
 refine tk (i:=2) (h:=?_)
 try simp only [Act.put,lt,ly,lu]
 refine tk (i:=3) (h:=?_)
 try simp only [Act.put,lt,ly,lu]
 refine tk (i:=4) (h:=?_)
 try simp only [Act.put,lt,ly,lu]
 refine tk (i:=6) (h:=?_)
 try simp only [Act.put,lt,ly,lu]
 refine tk (i:=7) (h:=?_)
 try simp only [Act.put,lt,ly,lu]
 refine tk (i:=8) (h:=?_)
 try simp only [Act.put,lt,ly,lu]
 refine tk (i:=9) (h:=?_)
 try simp only [Act.put,lt,ly,lu]
 refine wpAnyH_ready (rs:=[5,15]) (by kernel_rfl) (by simp) (AllReadyH.cons (o:=?o5q24) ?e5q24 ?k5q24 (AllReadyH.cons (o:=?o15q24) ?e15q24 ?k15q24 AllReadyH.nil))
 case e5q24=>simp only [lg,lz,ls] <;> rfl
 case e15q24=>simp only [lg,lz,ls] <;> rfl
 case k5q24 =>
   intro K hK
   go_simp;go_at_call 73
   refine (Cd (hx.out.keep b1.out) (Ac' hA.out b1.out) (hAn.out.keep b1.out) (Ac' hPp.out b1.out) (hPn.out.keep b1.out) sz.out sA.out sr.out hr0.out el0.out el1.out).mono ?_
   rintro e w2 ⟨v2,rfl,hv2,b2⟩
   obtain ⟨C1,j1,C2,j2,C3,j3,C4,j4,rfl,-,-,-,-⟩:=id hv2.opened
   replace hv2:=hid hv2
   replace b2:=hid b2
   have y0_2:=hid (bS b1.out b2.out)
   have hS:=y0_2.out
   clear hHeld
   refine hK.out _ _ ?_ (fun hHeld=>?_)
   · (try dsimp only)
     exact ⟨hS.cell (p:=⟨rb,ro+n*3,none⟩) hrb,hS.cell (p:=⟨rb,ro+n*3+1,none⟩) hrb,hS.cell (p:=⟨rb,ro+n*3+2,none⟩) hrb,hS.cell (p:=⟨rb,ro,none⟩) hrb,hS.cell (p:=⟨rb,ro+1,none⟩) hrb,hS.cell (p:=⟨rb,ro+2,none⟩) hrb⟩
   clear hK K hS;try simp only [Act.put,lt,ly,lu]
   refine wpAnyH_ready (rs:=[10,15]) (by kernel_rfl) (by simp) (AllReadyH.cons (o:=?o10q25) ?e10q25 ?k10q25 (AllReadyH.cons (o:=?o15q25) ?e15q25 ?k15q25 AllReadyH.nil))
   case e10q25=>simp only [lg,lz,ls] <;> rfl
   case e15q25=>simp only [lg,lz,ls] <;> rfl
   case k10q25 =>
     intro K hK
     go_simp;go_at_call 73
     refine (Cd (hy.out.keep y0_2.out) (Ac' hA.out y0_2.out) (hAn.out.keep y0_2.out) (Ac' hPp.out y0_2.out) (hPn.out.keep y0_2.out) sx.out sA.out sr.out hr0.out eg0.out eg1.out).mono ?_
     rintro e w3 ⟨v3,rfl,hv3,b3⟩
     obtain ⟨C5,j5,C6,j6,C7,j7,C8,j8,rfl,-,-,-,-⟩:=id hv3.opened
     replace hv3:=hid hv3
     replace b3:=hid b3
     have y0_3:=hid (bS y0_2.out b3.out)
     have hS:=y0_3.out
     clear hHeld
     refine hK.out _ _ ?_ (fun hHeld=>?_)
     · (try dsimp only)
       exact ⟨hS.cell (p:=⟨rb,ro+n*3,none⟩) hrb,hS.cell (p:=⟨rb,ro+n*3+1,none⟩) hrb,hS.cell (p:=⟨rb,ro+n*3+2,none⟩) hrb,hS.cell (p:=⟨rb,ro,none⟩) hrb,hS.cell (p:=⟨rb,ro+1,none⟩) hrb,hS.cell (p:=⟨rb,ro+2,none⟩) hrb⟩
     clear hK K hS;try simp only [Act.put,lt,ly,lu]
     refine wpAnyH_ready (rs:=[11,15]) (by kernel_rfl) (by simp) (AllReadyH.cons (o:=?o11q26) ?e11q26 ?k11q26 (AllReadyH.cons (o:=?o15q26) ?e15q26 ?k15q26 AllReadyH.nil))
     case e11q26=>simp only [lg,lz,ls] <;> rfl
     case e15q26=>simp only [lg,lz,ls] <;> rfl
     case k11q26 =>
       intro K hK
       go_simp;go_at_call 75
       refine (CB' el.out eh.out h0.out (hv2.out.keep b3.out) hv3.out (nT t1.out (by omega)) (nT t2.out (by omega)) (nT t3.out (by omega)) (nT t4.out (by omega))).mono ?_
       rintro e w4 ⟨v4,rfl,hv4,b4⟩
       obtain ⟨C9,j9,C10,j10,C11,j11,C12,j12,rfl,-,-,-,-⟩:=id hv4.opened
       replace hv4:=hid hv4
       replace b4:=hid b4
       have y0_4:=hid (bS y0_3.out b4.out)
       have hS:=y0_4.out
       clear hHeld
       refine hK.out _ _ ?_ (fun hHeld=>?_)
       · (try dsimp only)
         exact ⟨hS.cell (p:=⟨rb,ro+n*3,none⟩) hrb,hS.cell (p:=⟨rb,ro+n*3+1,none⟩) hrb,hS.cell (p:=⟨rb,ro+n*3+2,none⟩) hrb,hS.cell (p:=⟨rb,ro,none⟩) hrb,hS.cell (p:=⟨rb,ro+1,none⟩) hrb,hS.cell (p:=⟨rb,ro+2,none⟩) hrb⟩
       clear hK K hS;try simp only [Act.put,lt,ly,lu]
       refine tk (i:=12) (h:=?_)
       try simp only [Act.put,lt,ly,lu]
       refine tk (i:=13) (h:=?_)
       try simp only [Act.put,lt,ly,lu]
       refine tk (i:=14) (h:=?_)
       try simp only [Act.put,lt,ly,lu]
       refine rd (i:=15) (h:=fun K hK=>?_)
       have y1_4:=hid (bS (bS b2.out b3.out) b4.out)
       have lb_D:w1.heap.size≤w4.heap.size:=y1_4.out.size
       go_simp
       obtain ⟨w5,hw5⟩:=eX (w4.alloc (.cells #[.bool false,.slice none 0 0,.slice none 0 0,.bool false,.slice none 0 0,.slice none 0 0] 34))
       have b5:=hid (Ar hw5)
       have L5:=hid (At' hw5)
       rw [←hw5]
       clear hw5
       have y0_5:=hid (bS y0_4.out b5.out)
       have hS:=y0_5.out
       clear hHeld
       refine hK.out _ _ ?_ (fun hHeld=>?_)
       · (try dsimp only)
         exact ⟨hS.cell (p:=⟨rb,ro+n*3,none⟩) hrb,hS.cell (p:=⟨rb,ro+n*3+1,none⟩) hrb,hS.cell (p:=⟨rb,ro+n*3+2,none⟩) hrb,hS.cell (p:=⟨rb,ro,none⟩) hrb,hS.cell (p:=⟨rb,ro+1,none⟩) hrb,hS.cell (p:=⟨rb,ro+2,none⟩) hrb⟩
       clear hK K hS;try simp only [Act.put,lt,ly,lu]
       refine rd (i:=16) (h:=fun K hK=>?_)
       have DBq29:=Ac' L5.out (Below.refl _ w5)
       have q0:w5.cell? ⟨w4.heap.size,0,none⟩=some (.bool false):=cR _ _ _ _ _ _ DBq29
       have F0:w5.frozen? ⟨w4.heap.size,0,none⟩=false:=fR w5 (w4.heap.size) 0 _ _ DBq29
       have q1:w5.cell? ⟨w4.heap.size,1,none⟩=some (.slice none 0 0):=cR _ _ _ _ _ _ DBq29
       have F1:w5.frozen? ⟨w4.heap.size,1,none⟩=false:=fR w5 (w4.heap.size) 1 _ _ DBq29
       have q2:w5.cell? ⟨w4.heap.size,2,none⟩=some (.slice none 0 0):=cR _ _ _ _ _ _ DBq29
       have F2:w5.frozen? ⟨w4.heap.size,2,none⟩=false:=fR w5 (w4.heap.size) 2 _ _ DBq29
       have q3:w5.cell? ⟨w4.heap.size,3,none⟩=some (.bool false):=cR _ _ _ _ _ _ DBq29
       have F3:w5.frozen? ⟨w4.heap.size,3,none⟩=false:=fR w5 (w4.heap.size) 3 _ _ DBq29
       have q4:w5.cell? ⟨w4.heap.size,4,none⟩=some (.slice none 0 0):=cR _ _ _ _ _ _ DBq29
       have F4:w5.frozen? ⟨w4.heap.size,4,none⟩=false:=fR w5 (w4.heap.size) 4 _ _ DBq29
       have q5:w5.cell? ⟨w4.heap.size,5,none⟩=some (.slice none 0 0):=cR _ _ _ _ _ _ DBq29
       have F5:w5.frozen? ⟨w4.heap.size,5,none⟩=false:=fR w5 (w4.heap.size) 5 _ _ DBq29
       go_simp
       clear q0 F0 q1 F1 q2 F2 q3 F3 q4 F4 q5 F5
       have hS:=y0_5.out
       have FV:=hid (hv4.out.keep b5.out)
       have FB:=hid y0_5.out
       obtain ⟨w6,hw⟩:=eX (((((((w5.setCell ⟨w4.heap.size,0,none⟩ (.bool (decide (lo.num<0)))).setCell ⟨w4.heap.size,1,none⟩ (.slice C9 (Vx.len lo.num.natAbs) j9)).setCell ⟨w4.heap.size,2,none⟩ (.slice C10 (Vx.len (below lo.den)) j10)).setCell ⟨w4.heap.size,3,none⟩ (.bool (decide (hi.num<0)))).setCell ⟨w4.heap.size,4,none⟩ (.slice C11 (Vx.len hi.num.natAbs) j11)).setCell ⟨w4.heap.size,5,none⟩ (.slice C12 (Vx.len (below hi.den)) j12)))
       obtain ⟨E,OT,LV,BL⟩:=Av DBq29 hw
       rw [←hw]
       clear hw
       have L6:=hid E
       have FB6:=hid (BL _ _ (by omega) FB.out)
       have HS6:=hid (BL _ _ (show w.heap.size≤w4.heap.size by omega) hS)
       have LKlim6:=hid (OT _ _ (by omega) (Ac' hm.out y0_5.out))
       have KVD6:=hid (LV.box (hv4.out.keep b5.out))
       have KVlim6:=hid (LV.num (hM.out.keep y0_5.out))
       refine hK.out _ _ ?_ (fun hHeld2=>?_)
       · (try dsimp only)
         exact ⟨(Aa' OT (by omega) (ltl hrb hS.size)).trans (hS.cell (p:=⟨rb,ro+n*3,none⟩) hrb),(Aa' OT (by omega) (ltl hrb hS.size)).trans (hS.cell (p:=⟨rb,ro+n*3+1,none⟩) hrb),(Aa' OT (by omega) (ltl hrb hS.size)).trans (hS.cell (p:=⟨rb,ro+n*3+2,none⟩) hrb),(Aa' OT (by omega) (ltl hrb hS.size)).trans (hS.cell (p:=⟨rb,ro,none⟩) hrb),(Aa' OT (by omega) (ltl hrb hS.size)).trans (hS.cell (p:=⟨rb,ro+1,none⟩) hrb),(Aa' OT (by omega) (ltl hrb hS.size)).trans (hS.cell (p:=⟨rb,ro+2,none⟩) hrb)⟩
       clear hK K hHeld hS OT LV BL FV FB E DBq29
       try simp only [Act.put,lt,ly,lu]
       have hHeld:=hHeld2
       clear hHeld2
       refine tk (i:=17) (h:=?_)
       try simp only [Act.put,lt,ly,lu]
       refine wpAnyH_done (by kernel_rfl) ?_ _
       clear hHeld
       have FB:=hid FB6.out
       go_wp2_with fail
       refine hG.out _ _ ?_
       exact Cb' L6.out KVD6.out sl.out.1 sl.out.2 LKlim6.out KVlim6.out sm.out hn2 hk.out (fun w' h=>hPo.out w' (Ae' FB.out h))
     case k15q26 =>
       intro K hK
       have y1_3:=hid (bS b2.out b3.out)
       have lb_D:w1.heap.size≤w3.heap.size:=y1_3.out.size
       go_simp
       obtain ⟨w4,hw4⟩:=eX (w3.alloc (.cells #[.bool false,.slice none 0 0,.slice none 0 0,.bool false,.slice none 0 0,.slice none 0 0] 34))
       have b4:=hid (Ar hw4)
       have L4:=hid (At' hw4)
       rw [←hw4]
       clear hw4
       have y0_4:=hid (bS y0_3.out b4.out)
       have hS:=y0_4.out
       clear hHeld
       refine hK.out _ _ ?_ (fun hHeld=>?_)
       · (try dsimp only)
         exact ⟨hS.cell (p:=⟨rb,ro+n*3,none⟩) hrb,hS.cell (p:=⟨rb,ro+n*3+1,none⟩) hrb,hS.cell (p:=⟨rb,ro+n*3+2,none⟩) hrb,hS.cell (p:=⟨rb,ro,none⟩) hrb,hS.cell (p:=⟨rb,ro+1,none⟩) hrb,hS.cell (p:=⟨rb,ro+2,none⟩) hrb⟩
       clear hK K hS;try simp only [Act.put,lt,ly,lu]
       refine rd (i:=11) (h:=fun K hK=>?_)
       have y2_4:=hid (bS b3.out b4.out)
       go_simp;go_at_call 75
       refine (CB' el.out eh.out h0.out (hv2.out.keep y2_4.out) (hv3.out.keep b4.out) (nT t1.out (by omega)) (nT t2.out (by omega)) (nT t3.out (by omega)) (nT t4.out (by omega))).mono ?_
       rintro e w5 ⟨v5,rfl,hv5,b5⟩
       obtain ⟨C13,j13,C14,j14,C15,j15,C16,j16,rfl,-,-,-,-⟩:=id hv5.opened
       replace hv5:=hid hv5
       replace b5:=hid b5
       have y0_5:=hid (bS y0_4.out b5.out)
       have hS:=y0_5.out
       clear hHeld
       refine hK.out _ _ ?_ (fun hHeld=>?_)
       · (try dsimp only)
         exact ⟨hS.cell (p:=⟨rb,ro+n*3,none⟩) hrb,hS.cell (p:=⟨rb,ro+n*3+1,none⟩) hrb,hS.cell (p:=⟨rb,ro+n*3+2,none⟩) hrb,hS.cell (p:=⟨rb,ro,none⟩) hrb,hS.cell (p:=⟨rb,ro+1,none⟩) hrb,hS.cell (p:=⟨rb,ro+2,none⟩) hrb⟩
       clear hK K hS;try simp only [Act.put,lt,ly,lu]
       refine tk (i:=12) (h:=?_)
       try simp only [Act.put,lt,ly,lu]
       refine tk (i:=13) (h:=?_)
       try simp only [Act.put,lt,ly,lu]
       refine tk (i:=14) (h:=?_)
       try simp only [Act.put,lt,ly,lu]
       refine rd (i:=16) (h:=fun K hK=>?_)
       have DBq32:=Ac' L4.out b5.out
       have q0:w5.cell? ⟨w3.heap.size,0,none⟩=some (.bool false):=cR _ _ _ _ _ _ DBq32
       have F0:w5.frozen? ⟨w3.heap.size,0,none⟩=false:=fR w5 (w3.heap.size) 0 _ _ DBq32
       have q1:w5.cell? ⟨w3.heap.size,1,none⟩=some (.slice none 0 0):=cR _ _ _ _ _ _ DBq32
       have F1:w5.frozen? ⟨w3.heap.size,1,none⟩=false:=fR w5 (w3.heap.size) 1 _ _ DBq32
       have q2:w5.cell? ⟨w3.heap.size,2,none⟩=some (.slice none 0 0):=cR _ _ _ _ _ _ DBq32
       have F2:w5.frozen? ⟨w3.heap.size,2,none⟩=false:=fR w5 (w3.heap.size) 2 _ _ DBq32
       have q3:w5.cell? ⟨w3.heap.size,3,none⟩=some (.bool false):=cR _ _ _ _ _ _ DBq32
       have F3:w5.frozen? ⟨w3.heap.size,3,none⟩=false:=fR w5 (w3.heap.size) 3 _ _ DBq32
       have q4:w5.cell? ⟨w3.heap.size,4,none⟩=some (.slice none 0 0):=cR _ _ _ _ _ _ DBq32
       have F4:w5.frozen? ⟨w3.heap.size,4,none⟩=false:=fR w5 (w3.heap.size) 4 _ _ DBq32
       have q5:w5.cell? ⟨w3.heap.size,5,none⟩=some (.slice none 0 0):=cR _ _ _ _ _ _ DBq32
       have F5:w5.frozen? ⟨w3.heap.size,5,none⟩=false:=fR w5 (w3.heap.size) 5 _ _ DBq32
       go_simp
       clear q0 F0 q1 F1 q2 F2 q3 F3 q4 F4 q5 F5
       have hS:=y0_5.out
       have FV:=hid hv5.out
       have FB:=hid y0_5.out
       obtain ⟨w6,hw⟩:=eX (((((((w5.setCell ⟨w3.heap.size,0,none⟩ (.bool (decide (lo.num<0)))).setCell ⟨w3.heap.size,1,none⟩ (.slice C13 (Vx.len lo.num.natAbs) j13)).setCell ⟨w3.heap.size,2,none⟩ (.slice C14 (Vx.len (below lo.den)) j14)).setCell ⟨w3.heap.size,3,none⟩ (.bool (decide (hi.num<0)))).setCell ⟨w3.heap.size,4,none⟩ (.slice C15 (Vx.len hi.num.natAbs) j15)).setCell ⟨w3.heap.size,5,none⟩ (.slice C16 (Vx.len (below hi.den)) j16)))
       obtain ⟨E,OT,LV,BL⟩:=Av DBq32 hw
       rw [←hw]
       clear hw
       have L6:=hid E
       have FB6:=hid (BL _ _ (by omega) FB.out)
       have HS6:=hid (BL _ _ (show w.heap.size≤w3.heap.size by omega) hS)
       have LKlim6:=hid (OT _ _ (by omega) (Ac' hm.out y0_5.out))
       have KVD6:=hid (LV.box hv5.out)
       have KVlim6:=hid (LV.num (hM.out.keep y0_5.out))
       refine hK.out _ _ ?_ (fun hHeld2=>?_)
       · (try dsimp only)
         exact ⟨(Aa' OT (by omega) (ltl hrb hS.size)).trans (hS.cell (p:=⟨rb,ro+n*3,none⟩) hrb),(Aa' OT (by omega) (ltl hrb hS.size)).trans (hS.cell (p:=⟨rb,ro+n*3+1,none⟩) hrb),(Aa' OT (by omega) (ltl hrb hS.size)).trans (hS.cell (p:=⟨rb,ro+n*3+2,none⟩) hrb),(Aa' OT (by omega) (ltl hrb hS.size)).trans (hS.cell (p:=⟨rb,ro,none⟩) hrb),(Aa' OT (by omega) (ltl hrb hS.size)).trans (hS.cell (p:=⟨rb,ro+1,none⟩) hrb),(Aa' OT (by omega) (ltl hrb hS.size)).trans (hS.cell (p:=⟨rb,ro+2,none⟩) hrb)⟩
       clear hK K hHeld hS OT LV BL FV FB E DBq32
       try simp only [Act.put,lt,ly,lu]
       have hHeld:=hHeld2
       clear hHeld2
       refine tk (i:=17) (h:=?_)
       try simp only [Act.put,lt,ly,lu]
       refine wpAnyH_done (by kernel_rfl) ?_ _
       clear hHeld
       have FB:=hid FB6.out
       go_wp2_with fail
       refine hG.out _ _ ?_
       exact Cb' L6.out KVD6.out sl.out.1 sl.out.2 LKlim6.out KVlim6.out sm.out hn2 hk.out (fun w' h=>hPo.out w' (Ae' FB.out h))
   case k15q25 =>
     intro K hK
     have lb_D:w1.heap.size≤w2.heap.size:=b2.out.size
     go_simp
     obtain ⟨w3,hw3⟩:=eX (w2.alloc (.cells #[.bool false,.slice none 0 0,.slice none 0 0,.bool false,.slice none 0 0,.slice none 0 0] 34))
     have b3:=hid (Ar hw3)
     have L3:=hid (At' hw3)
     rw [←hw3]
     clear hw3
     have y0_3:=hid (bS y0_2.out b3.out)
     have hS:=y0_3.out
     clear hHeld
     refine hK.out _ _ ?_ (fun hHeld=>?_)
     · (try dsimp only)
       exact ⟨hS.cell (p:=⟨rb,ro+n*3,none⟩) hrb,hS.cell (p:=⟨rb,ro+n*3+1,none⟩) hrb,hS.cell (p:=⟨rb,ro+n*3+2,none⟩) hrb,hS.cell (p:=⟨rb,ro,none⟩) hrb,hS.cell (p:=⟨rb,ro+1,none⟩) hrb,hS.cell (p:=⟨rb,ro+2,none⟩) hrb⟩
     clear hK K hS;try simp only [Act.put,lt,ly,lu]
     refine rd (i:=10) (h:=fun K hK=>?_)
     go_simp;go_at_call 73
     refine (Cd (hy.out.keep y0_3.out) (Ac' hA.out y0_3.out) (hAn.out.keep y0_3.out) (Ac' hPp.out y0_3.out) (hPn.out.keep y0_3.out) sx.out sA.out sr.out hr0.out eg0.out eg1.out).mono ?_
     rintro e w4 ⟨v4,rfl,hv4,b4⟩
     obtain ⟨C17,j17,C18,j18,C19,j19,C20,j20,rfl,-,-,-,-⟩:=id hv4.opened
     replace hv4:=hid hv4
     replace b4:=hid b4
     have y0_4:=hid (bS y0_3.out b4.out)
     have hS:=y0_4.out
     clear hHeld
     refine hK.out _ _ ?_ (fun hHeld=>?_)
     · (try dsimp only)
       exact ⟨hS.cell (p:=⟨rb,ro+n*3,none⟩) hrb,hS.cell (p:=⟨rb,ro+n*3+1,none⟩) hrb,hS.cell (p:=⟨rb,ro+n*3+2,none⟩) hrb,hS.cell (p:=⟨rb,ro,none⟩) hrb,hS.cell (p:=⟨rb,ro+1,none⟩) hrb,hS.cell (p:=⟨rb,ro+2,none⟩) hrb⟩
     clear hK K hS;try simp only [Act.put,lt,ly,lu]
     refine rd (i:=11) (h:=fun K hK=>?_)
     have y2_4:=hid (bS b3.out b4.out)
     go_simp;go_at_call 75
     refine (CB' el.out eh.out h0.out (hv2.out.keep y2_4.out) hv4.out (nT t1.out (by omega)) (nT t2.out (by omega)) (nT t3.out (by omega)) (nT t4.out (by omega))).mono ?_
     rintro e w5 ⟨v5,rfl,hv5,b5⟩
     obtain ⟨C21,j21,C22,j22,C23,j23,C24,j24,rfl,-,-,-,-⟩:=id hv5.opened
     replace hv5:=hid hv5
     replace b5:=hid b5
     have y0_5:=hid (bS y0_4.out b5.out)
     have hS:=y0_5.out
     clear hHeld
     refine hK.out _ _ ?_ (fun hHeld=>?_)
     · (try dsimp only)
       exact ⟨hS.cell (p:=⟨rb,ro+n*3,none⟩) hrb,hS.cell (p:=⟨rb,ro+n*3+1,none⟩) hrb,hS.cell (p:=⟨rb,ro+n*3+2,none⟩) hrb,hS.cell (p:=⟨rb,ro,none⟩) hrb,hS.cell (p:=⟨rb,ro+1,none⟩) hrb,hS.cell (p:=⟨rb,ro+2,none⟩) hrb⟩
     clear hK K hS;try simp only [Act.put,lt,ly,lu]
     refine tk (i:=12) (h:=?_)
     try simp only [Act.put,lt,ly,lu]
     refine tk (i:=13) (h:=?_)
     try simp only [Act.put,lt,ly,lu]
     refine tk (i:=14) (h:=?_)
     try simp only [Act.put,lt,ly,lu]
     refine rd (i:=16) (h:=fun K hK=>?_)
     have y3_5:=hid (bS b4.out b5.out)
     have DBq36:=Ac' L3.out y3_5.out
     have q0:w5.cell? ⟨w2.heap.size,0,none⟩=some (.bool false):=cR _ _ _ _ _ _ DBq36
     have F0:w5.frozen? ⟨w2.heap.size,0,none⟩=false:=fR w5 (w2.heap.size) 0 _ _ DBq36
     have q1:w5.cell? ⟨w2.heap.size,1,none⟩=some (.slice none 0 0):=cR _ _ _ _ _ _ DBq36
     have F1:w5.frozen? ⟨w2.heap.size,1,none⟩=false:=fR w5 (w2.heap.size) 1 _ _ DBq36
     have q2:w5.cell? ⟨w2.heap.size,2,none⟩=some (.slice none 0 0):=cR _ _ _ _ _ _ DBq36
     have F2:w5.frozen? ⟨w2.heap.size,2,none⟩=false:=fR w5 (w2.heap.size) 2 _ _ DBq36
     have q3:w5.cell? ⟨w2.heap.size,3,none⟩=some (.bool false):=cR _ _ _ _ _ _ DBq36
     have F3:w5.frozen? ⟨w2.heap.size,3,none⟩=false:=fR w5 (w2.heap.size) 3 _ _ DBq36
     have q4:w5.cell? ⟨w2.heap.size,4,none⟩=some (.slice none 0 0):=cR _ _ _ _ _ _ DBq36
     have F4:w5.frozen? ⟨w2.heap.size,4,none⟩=false:=fR w5 (w2.heap.size) 4 _ _ DBq36
     have q5:w5.cell? ⟨w2.heap.size,5,none⟩=some (.slice none 0 0):=cR _ _ _ _ _ _ DBq36
     have F5:w5.frozen? ⟨w2.heap.size,5,none⟩=false:=fR w5 (w2.heap.size) 5 _ _ DBq36
     go_simp
     clear q0 F0 q1 F1 q2 F2 q3 F3 q4 F4 q5 F5
     have hS:=y0_5.out
     have FV:=hid hv5.out
     have FB:=hid y0_5.out
     obtain ⟨w6,hw⟩:=eX (((((((w5.setCell ⟨w2.heap.size,0,none⟩ (.bool (decide (lo.num<0)))).setCell ⟨w2.heap.size,1,none⟩ (.slice C21 (Vx.len lo.num.natAbs) j21)).setCell ⟨w2.heap.size,2,none⟩ (.slice C22 (Vx.len (below lo.den)) j22)).setCell ⟨w2.heap.size,3,none⟩ (.bool (decide (hi.num<0)))).setCell ⟨w2.heap.size,4,none⟩ (.slice C23 (Vx.len hi.num.natAbs) j23)).setCell ⟨w2.heap.size,5,none⟩ (.slice C24 (Vx.len (below hi.den)) j24)))
     obtain ⟨E,OT,LV,BL⟩:=Av DBq36 hw
     rw [←hw]
     clear hw
     have L6:=hid E
     have FB6:=hid (BL _ _ (by omega) FB.out)
     have HS6:=hid (BL _ _ (show w.heap.size≤w2.heap.size by omega) hS)
     have LKlim6:=hid (OT _ _ (by omega) (Ac' hm.out y0_5.out))
     have KVD6:=hid (LV.box hv5.out)
     have KVlim6:=hid (LV.num (hM.out.keep y0_5.out))
     refine hK.out _ _ ?_ (fun hHeld2=>?_)
     · (try dsimp only)
       exact ⟨(Aa' OT (by omega) (ltl hrb hS.size)).trans (hS.cell (p:=⟨rb,ro+n*3,none⟩) hrb),(Aa' OT (by omega) (ltl hrb hS.size)).trans (hS.cell (p:=⟨rb,ro+n*3+1,none⟩) hrb),(Aa' OT (by omega) (ltl hrb hS.size)).trans (hS.cell (p:=⟨rb,ro+n*3+2,none⟩) hrb),(Aa' OT (by omega) (ltl hrb hS.size)).trans (hS.cell (p:=⟨rb,ro,none⟩) hrb),(Aa' OT (by omega) (ltl hrb hS.size)).trans (hS.cell (p:=⟨rb,ro+1,none⟩) hrb),(Aa' OT (by omega) (ltl hrb hS.size)).trans (hS.cell (p:=⟨rb,ro+2,none⟩) hrb)⟩
     clear hK K hHeld hS OT LV BL FV FB E DBq36
     try simp only [Act.put,lt,ly,lu]
     have hHeld:=hHeld2
     clear hHeld2
     refine tk (i:=17) (h:=?_)
     try simp only [Act.put,lt,ly,lu]
     refine wpAnyH_done (by kernel_rfl) ?_ _
     clear hHeld
     have FB:=hid FB6.out
     go_wp2_with fail
     refine hG.out _ _ ?_
     exact Cb' L6.out KVD6.out sl.out.1 sl.out.2 LKlim6.out KVlim6.out sm.out hn2 hk.out (fun w' h=>hPo.out w' (Ae' FB.out h))
 case k15q24 =>
   intro K hK
   have lb_D:w1.heap.size≤w1.heap.size:=nL _
   go_simp
   obtain ⟨w2,hw2⟩:=eX (w1.alloc (.cells #[.bool false,.slice none 0 0,.slice none 0 0,.bool false,.slice none 0 0,.slice none 0 0] 34))
   have b2:=hid (Ar hw2)
   have L2:=hid (At' hw2)
   rw [←hw2]
   clear hw2
   have y0_2:=hid (bS b1.out b2.out)
   have hS:=y0_2.out
   clear hHeld
   refine hK.out _ _ ?_ (fun hHeld=>?_)
   · (try dsimp only)
     exact ⟨hS.cell (p:=⟨rb,ro+n*3,none⟩) hrb,hS.cell (p:=⟨rb,ro+n*3+1,none⟩) hrb,hS.cell (p:=⟨rb,ro+n*3+2,none⟩) hrb,hS.cell (p:=⟨rb,ro,none⟩) hrb,hS.cell (p:=⟨rb,ro+1,none⟩) hrb,hS.cell (p:=⟨rb,ro+2,none⟩) hrb⟩
   clear hK K hS;try simp only [Act.put,lt,ly,lu]
   refine rd (i:=5) (h:=fun K hK=>?_)
   go_simp;go_at_call 73
   refine (Cd (hx.out.keep y0_2.out) (Ac' hA.out y0_2.out) (hAn.out.keep y0_2.out) (Ac' hPp.out y0_2.out) (hPn.out.keep y0_2.out) sz.out sA.out sr.out hr0.out el0.out el1.out).mono ?_
   rintro e w3 ⟨v3,rfl,hv3,b3⟩
   obtain ⟨C25,j25,C26,j26,C27,j27,C28,j28,rfl,-,-,-,-⟩:=id hv3.opened
   replace hv3:=hid hv3
   replace b3:=hid b3
   have y0_3:=hid (bS y0_2.out b3.out)
   have hS:=y0_3.out
   clear hHeld
   refine hK.out _ _ ?_ (fun hHeld=>?_)
   · (try dsimp only)
     exact ⟨hS.cell (p:=⟨rb,ro+n*3,none⟩) hrb,hS.cell (p:=⟨rb,ro+n*3+1,none⟩) hrb,hS.cell (p:=⟨rb,ro+n*3+2,none⟩) hrb,hS.cell (p:=⟨rb,ro,none⟩) hrb,hS.cell (p:=⟨rb,ro+1,none⟩) hrb,hS.cell (p:=⟨rb,ro+2,none⟩) hrb⟩
   clear hK K hS;try simp only [Act.put,lt,ly,lu]
   refine rd (i:=10) (h:=fun K hK=>?_)
   go_simp;go_at_call 73
   refine (Cd (hy.out.keep y0_3.out) (Ac' hA.out y0_3.out) (hAn.out.keep y0_3.out) (Ac' hPp.out y0_3.out) (hPn.out.keep y0_3.out) sx.out sA.out sr.out hr0.out eg0.out eg1.out).mono ?_
   rintro e w4 ⟨v4,rfl,hv4,b4⟩
   obtain ⟨C29,j29,C30,j30,C31,j31,C32,j32,rfl,-,-,-,-⟩:=id hv4.opened
   replace hv4:=hid hv4
   replace b4:=hid b4
   have y0_4:=hid (bS y0_3.out b4.out)
   have hS:=y0_4.out
   clear hHeld
   refine hK.out _ _ ?_ (fun hHeld=>?_)
   · (try dsimp only)
     exact ⟨hS.cell (p:=⟨rb,ro+n*3,none⟩) hrb,hS.cell (p:=⟨rb,ro+n*3+1,none⟩) hrb,hS.cell (p:=⟨rb,ro+n*3+2,none⟩) hrb,hS.cell (p:=⟨rb,ro,none⟩) hrb,hS.cell (p:=⟨rb,ro+1,none⟩) hrb,hS.cell (p:=⟨rb,ro+2,none⟩) hrb⟩
   clear hK K hS;try simp only [Act.put,lt,ly,lu]
   refine rd (i:=11) (h:=fun K hK=>?_)
   go_simp;go_at_call 75
   refine (CB' el.out eh.out h0.out (hv3.out.keep b4.out) hv4.out (nT t1.out (by omega)) (nT t2.out (by omega)) (nT t3.out (by omega)) (nT t4.out (by omega))).mono ?_
   rintro e w5 ⟨v5,rfl,hv5,b5⟩
   obtain ⟨C33,j33,C34,j34,C35,j35,C36,j36,rfl,-,-,-,-⟩:=id hv5.opened
   replace hv5:=hid hv5
   replace b5:=hid b5
   have y0_5:=hid (bS y0_4.out b5.out)
   have hS:=y0_5.out
   clear hHeld
   refine hK.out _ _ ?_ (fun hHeld=>?_)
   · (try dsimp only)
     exact ⟨hS.cell (p:=⟨rb,ro+n*3,none⟩) hrb,hS.cell (p:=⟨rb,ro+n*3+1,none⟩) hrb,hS.cell (p:=⟨rb,ro+n*3+2,none⟩) hrb,hS.cell (p:=⟨rb,ro,none⟩) hrb,hS.cell (p:=⟨rb,ro+1,none⟩) hrb,hS.cell (p:=⟨rb,ro+2,none⟩) hrb⟩
   clear hK K hS;try simp only [Act.put,lt,ly,lu]
   refine tk (i:=12) (h:=?_)
   try simp only [Act.put,lt,ly,lu]
   refine tk (i:=13) (h:=?_)
   try simp only [Act.put,lt,ly,lu]
   refine tk (i:=14) (h:=?_)
   try simp only [Act.put,lt,ly,lu]
   refine rd (i:=16) (h:=fun K hK=>?_)
   have y2_5:=hid (bS (bS b3.out b4.out) b5.out)
   have DBq41:=Ac' L2.out y2_5.out
   have q0:w5.cell? ⟨w1.heap.size,0,none⟩=some (.bool false):=cR _ _ _ _ _ _ DBq41
   have F0:w5.frozen? ⟨w1.heap.size,0,none⟩=false:=fR w5 (w1.heap.size) 0 _ _ DBq41
   have q1:w5.cell? ⟨w1.heap.size,1,none⟩=some (.slice none 0 0):=cR _ _ _ _ _ _ DBq41
   have F1:w5.frozen? ⟨w1.heap.size,1,none⟩=false:=fR w5 (w1.heap.size) 1 _ _ DBq41
   have q2:w5.cell? ⟨w1.heap.size,2,none⟩=some (.slice none 0 0):=cR _ _ _ _ _ _ DBq41
   have F2:w5.frozen? ⟨w1.heap.size,2,none⟩=false:=fR w5 (w1.heap.size) 2 _ _ DBq41
   have q3:w5.cell? ⟨w1.heap.size,3,none⟩=some (.bool false):=cR _ _ _ _ _ _ DBq41
   have F3:w5.frozen? ⟨w1.heap.size,3,none⟩=false:=fR w5 (w1.heap.size) 3 _ _ DBq41
   have q4:w5.cell? ⟨w1.heap.size,4,none⟩=some (.slice none 0 0):=cR _ _ _ _ _ _ DBq41
   have F4:w5.frozen? ⟨w1.heap.size,4,none⟩=false:=fR w5 (w1.heap.size) 4 _ _ DBq41
   have q5:w5.cell? ⟨w1.heap.size,5,none⟩=some (.slice none 0 0):=cR _ _ _ _ _ _ DBq41
   have F5:w5.frozen? ⟨w1.heap.size,5,none⟩=false:=fR w5 (w1.heap.size) 5 _ _ DBq41
   go_simp
   clear q0 F0 q1 F1 q2 F2 q3 F3 q4 F4 q5 F5
   have hS:=y0_5.out
   have FV:=hid hv5.out
   have FB:=hid y0_5.out
   obtain ⟨w6,hw⟩:=eX (((((((w5.setCell ⟨w1.heap.size,0,none⟩ (.bool (decide (lo.num<0)))).setCell ⟨w1.heap.size,1,none⟩ (.slice C33 (Vx.len lo.num.natAbs) j33)).setCell ⟨w1.heap.size,2,none⟩ (.slice C34 (Vx.len (below lo.den)) j34)).setCell ⟨w1.heap.size,3,none⟩ (.bool (decide (hi.num<0)))).setCell ⟨w1.heap.size,4,none⟩ (.slice C35 (Vx.len hi.num.natAbs) j35)).setCell ⟨w1.heap.size,5,none⟩ (.slice C36 (Vx.len (below hi.den)) j36)))
   obtain ⟨E,OT,LV,BL⟩:=Av DBq41 hw
   rw [←hw]
   clear hw
   have L6:=hid E
   have FB6:=hid (BL _ _ (by omega) FB.out)
   have HS6:=hid (BL _ _ (show w.heap.size≤w1.heap.size by omega) hS)
   have LKlim6:=hid (OT _ _ (by omega) (Ac' hm.out y0_5.out))
   have KVD6:=hid (LV.box hv5.out)
   have KVlim6:=hid (LV.num (hM.out.keep y0_5.out))
   refine hK.out _ _ ?_ (fun hHeld2=>?_)
   · (try dsimp only)
     exact ⟨(Aa' OT (by omega) (ltl hrb hS.size)).trans (hS.cell (p:=⟨rb,ro+n*3,none⟩) hrb),(Aa' OT (by omega) (ltl hrb hS.size)).trans (hS.cell (p:=⟨rb,ro+n*3+1,none⟩) hrb),(Aa' OT (by omega) (ltl hrb hS.size)).trans (hS.cell (p:=⟨rb,ro+n*3+2,none⟩) hrb),(Aa' OT (by omega) (ltl hrb hS.size)).trans (hS.cell (p:=⟨rb,ro,none⟩) hrb),(Aa' OT (by omega) (ltl hrb hS.size)).trans (hS.cell (p:=⟨rb,ro+1,none⟩) hrb),(Aa' OT (by omega) (ltl hrb hS.size)).trans (hS.cell (p:=⟨rb,ro+2,none⟩) hrb)⟩
   clear hK K hHeld hS OT LV BL FV FB E DBq41
   try simp only [Act.put,lt,ly,lu]
   have hHeld:=hHeld2
   clear hHeld2
   refine tk (i:=17) (h:=?_)
   try simp only [Act.put,lt,ly,lu]
   refine wpAnyH_done (by kernel_rfl) ?_ _
   clear hHeld
   have FB:=hid FB6.out
   go_wp2_with fail
   refine hG.out _ _ ?_
   exact Cb' L6.out KVD6.out sl.out.1 sl.out.2 LKlim6.out KVlim6.out sm.out hn2 hk.out (fun w' h=>hPo.out w' (Ae' FB.out h))
theorem FT {w:World} {v vm vs:Value} {a b r m s x z lo hi:Rat} {rb ro c n n1:Nat} {k:Int} {l:List Rat} (hp:AQ' w v a b r) (hm:Ad' w vm m) (hs:Ad' w vs s) (hl:AX w rb ro l) (hz:l[n]?=some z) (hx0:l[0]?=some x) (hn1:n1=n+1) (hn:1≤n) (hn2:n≤199) (hg:Bz' a b r) (hs0:0≤s) (hs1:s<1) (sz:Ab' z≤1000000) (sx:Ab' x≤1000000) (sm:Ab' m≤1000000) (ss:Ab' s≤900000) (sr:Ab' r≤1000000) (sg:Ab' a≤1000000∧Ab' b≤1000000) (h0:¬ (x - m - r≤0∧0≤x - m+r)) (el:leastOf ((z - m - r) / (x - m - r)) [(z - m - r) / (x - m+r),(z - m+r) / (x - m - r),(z - m+r) / (x - m+r)]=lo) (eh:greatestOf ((z - m - r) / (x - m - r)) [(z - m - r) / (x - m+r),(z - m+r) / (x - m - r),(z - m+r) / (x - m+r)]=hi) (hk:(if (1 - s)^n≤lo then 1 else if hi<(1 - s)^n then 2 else 3)=k) :
   Calls Tryz.prog 38 #[v,.slice (some ⟨rb,ro,none⟩) n1 c,vm,vs] w (fun e w'=>e=.returned (.tuple #[.int .u8 k,.int .i64 0])∧Below w.heap.size w w'):=by
 obtain ⟨o,eo⟩:=eY (((1:Int):Rat):Rat)
 obtain ⟨c9,e9⟩:=eY (s.num.sign:Int)
 obtain ⟨c8,e8⟩:=eY (cmpQ s o:Int)
 have d1:decide (c9<0)=false:=dF_ (by rw [←e9];exact Int.not_lt.2 (Int.sign_nonneg_iff.2 (Rat.num_nonneg.2 hs0)))
 have d2:decide (c8≥0)=false:=dF_ (by rw [←e8];have:cmpQ s o<0:=Bg'.2 (by rw [←eo];exact hs1);omega)
 have ko:Ab' o≤536870912:=by rw [←eo];decide
 have ks:Ab' s≤536870912:=by omega
 have hwk:IntKind.i64.wrap (((n1:Nat):Int) - 1)=((n:Nat):Int):=by
   subst hn1
   unfold IntKind.wrap
   simp [IntKind.bits,IntKind.signed]
   omega
 have hn1le:n1≤200:=by omega
 have hn1ge:2≤n1:=by omega
 replace eo:=hid eo
 replace e9:=hid e9
 replace e8:=hid e8
 replace ko:=hid ko
 replace ks:=hid ks
 replace hl:=hid hl
 replace hz:=hid hz
 replace hx0:=hid hx0
 replace hg:=hid hg
 replace sz:=hid sz
 replace sx:=hid sx
 replace sm:=hid sm
 replace ss:=hid ss
 replace sr:=hid sr
 replace sg:=hid sg
 replace h0:=hid h0
 replace el:=hid el
 replace eh:=hid eh
 replace hk:=hid hk
 replace hs0:=hid hs0
 replace hs1:=hid hs1
 replace hn1:=hid hn1
 obtain ⟨C1,j1,C2,j2,C3,j3,C4,j4,C5,j5,C6,j6,rfl,hpg,hpe⟩:=id hp.opened
 replace hp:=hid hp
 replace hpg:=hid hpg
 replace hpe:=hid hpe
 obtain ⟨C7,j7,C8,j8,rfl,-,-⟩:=id hm.opened
 replace hm:=hid hm
 obtain ⟨C9,j9,C10,j10,rfl,-,-⟩:=id hs.opened
 replace hs:=hid hs
 obtain ⟨w1,hw1⟩:=eX ((((w.alloc (.cells #[.bool (decide (a.num<0)),.slice C1 (Vx.len a.num.natAbs) j1,.slice C2 (Vx.len (below a.den)) j2,.bool (decide (b.num<0)),.slice C3 (Vx.len b.num.natAbs) j3,.slice C4 (Vx.len (below b.den)) j4,.bool (decide (r.num<0)),.slice C5 (Vx.len r.num.natAbs) j5,.slice C6 (Vx.len (below r.den)) j6] 71)).alloc (.cells #[.bool (decide (m.num<0)),.slice C7 (Vx.len m.num.natAbs) j7,.slice C8 (Vx.len (below m.den)) j8] 32)).alloc (.cells #[.bool (decide (s.num<0)),.slice C9 (Vx.len s.num.natAbs) j9,.slice C10 (Vx.len (below s.den)) j10] 32)))
 obtain ⟨b1,g1,g2,g3⟩:=AD hw1
 replace g1:=hid g1
 replace g2:=hid g2
 replace g3:=hid g3
 replace b1:=hid b1
 go_enter Tryz.func38,Tryz.ntmps38
 go_upto_region 1 with fail
 rw [←hw1]
 clear hw1
 have hg:w1.heap[w.heap.size]?=some (.cells #[.bool (decide (a.num<0)),.slice C1 (Vx.len a.num.natAbs) j1,.slice C2 (Vx.len (below a.den)) j2,.bool (decide (b.num<0)),.slice C3 (Vx.len b.num.natAbs) j3,.slice C4 (Vx.len (below b.den)) j4,.bool (decide (r.num<0)),.slice C5 (Vx.len r.num.natAbs) j5,.slice C6 (Vx.len (below r.den)) j6] 71 (0,0)):=((Below.refl _ w1).block _ (gE.1 g1.out).1).trans g1.out
 have z_p_0:w1.cell? ⟨w.heap.size,0,none⟩=some (.bool (decide (a.num<0))):=cR _ _ _ _ _ _ hg
 have z_p_1:w1.cell? ⟨w.heap.size,1,none⟩=some (.slice C1 (Vx.len a.num.natAbs) j1):=cR _ _ _ _ _ _ hg
 have z_p_2:w1.cell? ⟨w.heap.size,2,none⟩=some (.slice C2 (Vx.len (below a.den)) j2):=cR _ _ _ _ _ _ hg
 have z_p_3:w1.cell? ⟨w.heap.size,3,none⟩=some (.bool (decide (b.num<0))):=cR _ _ _ _ _ _ hg
 have z_p_4:w1.cell? ⟨w.heap.size,4,none⟩=some (.slice C3 (Vx.len b.num.natAbs) j3):=cR _ _ _ _ _ _ hg
 have z_p_5:w1.cell? ⟨w.heap.size,5,none⟩=some (.slice C4 (Vx.len (below b.den)) j4):=cR _ _ _ _ _ _ hg
 have z_p_6:w1.cell? ⟨w.heap.size,6,none⟩=some (.bool (decide (r.num<0))):=cR _ _ _ _ _ _ hg
 have z_p_7:w1.cell? ⟨w.heap.size,7,none⟩=some (.slice C5 (Vx.len r.num.natAbs) j5):=cR _ _ _ _ _ _ hg
 have z_p_8:w1.cell? ⟨w.heap.size,8,none⟩=some (.slice C6 (Vx.len (below r.den)) j6):=cR _ _ _ _ _ _ hg
 clear hg
 have HX:=hid (CW' (n:=n1) (k:=2) (hp.out.keep b1.out) hg.out (nT sg.out.1 (by omega)) (nT sg.out.2 (by omega)) hn1le hn1ge)
 go_wp2_with fail
 refine (HX.out).mono ?_
 rintro e w2 ⟨rfl,b2⟩
 replace b2:=hid b2
 clear HX
 obtain ⟨z_s_0,z_s_1,z_s_2⟩:=Ae (Ac' g3.out b2.out)
 go_upto_region 4 with fail
 have hbs:=Af' (Ac' g3.out b2.out)
 go_wp2_with fail
 refine wp_region_held_drew (S:=(fun w'=>(w'.cell? ⟨(w.heap.size+2),0,none⟩=w2.cell? ⟨(w.heap.size+2),0,none⟩∧w'.cell? ⟨(w.heap.size+2),1,none⟩=w2.cell? ⟨(w.heap.size+2),1,none⟩∧w'.cell? ⟨(w.heap.size+2),2,none⟩=w2.cell? ⟨(w.heap.size+2),2,none⟩))) (by kernel_rfl) ?_ (fun hHeld=>?_)
 · (try dsimp only)
   exact ⟨rfl,rfl,rfl⟩
 obtain ⟨w3,hw3⟩:=eX w2.drew
 have b3:Hid (Below w2.heap.size w2 w3):=hid (by rw [hw3];exact ⟨rfl,rfl,rfl,nL _,fun _ _=>rfl⟩)
 rw [←hw3] at hHeld ⊢
 clear hw3
 have y0_3:=hid (bS (bS b1.out b2.out) b3.out)
 have lbW:w.heap.size≤w3.heap.size:=y0_3.out.size
 have lbS:w2.heap.size≤w3.heap.size:=b3.out.size
 refine tk (i:=0) (h:=?_)
 try simp only [Act.put,lt,ly,lu]
 refine rd (i:=1) (h:=fun K hK=>?_)
 go_simp;go_at_call 31
 refine (BQ' e9.out (hs.out.keep y0_3.out)).mono ?_
 rintro e w4 ⟨rfl,b4⟩
 replace b4:=hid b4
 have y2_4:=hid (bS b3.out b4.out)
 have hS:=y2_4.out
 clear hHeld
 refine hK.out _ _ ?_ (fun hHeld=>?_)
 · (try dsimp only)
   exact ⟨hS.cell (p:=⟨(w.heap.size+2),0,none⟩) hbs,hS.cell (p:=⟨(w.heap.size+2),1,none⟩) hbs,hS.cell (p:=⟨(w.heap.size+2),2,none⟩) hbs⟩
 clear hK K hS;try simp only [Act.put,lt,ly,lu]
 refine tk (i:=2) (h:=?_)
 try simp only [Act.put,lt,ly,lu]
 refine tk (i:=3) (h:=?_)
 try simp only [Act.put,lt,ly,lu]
 refine tk (i:=4) (h:=?_)
 try simp only [Act.put,lt,ly,lu]
 refine rd (i:=5) (h:=fun K hK=>?_)
 go_simp;go_at_call 25
 refine (Ay' (w:=w4) eo.out (by omega) (by omega)).mono ?_
 rintro e w5 ⟨v5,rfl,hv5,b5⟩
 obtain ⟨C11,j11,C12,j12,rfl,-,-⟩:=id hv5.opened
 replace hv5:=hid hv5
 replace b5:=hid b5
 have y2_5:=hid (bS y2_4.out b5.out)
 have hS:=y2_5.out
 clear hHeld
 refine hK.out _ _ ?_ (fun hHeld=>?_)
 · (try dsimp only)
   exact ⟨hS.cell (p:=⟨(w.heap.size+2),0,none⟩) hbs,hS.cell (p:=⟨(w.heap.size+2),1,none⟩) hbs,hS.cell (p:=⟨(w.heap.size+2),2,none⟩) hbs⟩
 clear hK K hS;try simp only [Act.put,lt,ly,lu]
 refine rd (i:=6) (h:=fun K hK=>?_)
 have y0_5:=hid (bS (bS y0_3.out b4.out) b5.out)
 go_simp;go_at_call 21
 refine (Ba' e8.out (hs.out.keep y0_5.out) hv5.out ks.out ko.out).mono ?_
 rintro e w6 ⟨rfl,b6⟩
 replace b6:=hid b6
 have y2_6:=hid (bS y2_5.out b6.out)
 have hS:=y2_6.out
 clear hHeld
 refine hK.out _ _ ?_ (fun hHeld=>?_)
 · (try dsimp only)
   exact ⟨hS.cell (p:=⟨(w.heap.size+2),0,none⟩) hbs,hS.cell (p:=⟨(w.heap.size+2),1,none⟩) hbs,hS.cell (p:=⟨(w.heap.size+2),2,none⟩) hbs⟩
 clear hK K hS;try simp only [Act.put,lt,ly,lu]
 refine tk (i:=7) (h:=?_)
 try simp only [Act.put,lt,ly,lu]
 refine tk (i:=8) (h:=?_)
 try simp only [Act.put,lt,ly,lu]
 refine wpAnyH_done (by kernel_rfl) ?_ _
 clear hHeld
 have y0_6:=hid (bS y0_5.out b6.out)
 have y1_6:=hid (bS (bS (bS (bS b2.out b3.out) b4.out) b5.out) b6.out)
 have FB:=hid y0_6.out
 go_upto_region 7 with fail
 rename_i G hG
 replace hG:=hid hG
 go_wp2_with fail
 refine hG.out _ _ ?_
 exact Ea' (hl.out.keep y0_6.out) hz.out hx0.out hn1.out (by omega) (Ac' g3.out y1_6.out) (hs.out.keep y0_6.out) (nT ss.out (by omega)) (Ac' g2.out y1_6.out) (hm.out.keep y0_6.out) (Ac' g1.out y1_6.out) (hpe.out.keep y0_6.out) sz.out sx.out sm.out sr.out (hg.out).2.2 h0.out el.out eh.out hk.out (fun w' h=>⟨rfl,Ae' FB.out h⟩)
def AE (N:Int) (D:Nat):Rat:=(N:Rat) / (((D%16+1:Nat):Int):Rat)
theorem BY' {w:World} {a b:Int} {q:Rat} (hq:(a:Rat) / (b:Rat)=q) (hb:0<b) (ha1 : -9223372036854775808≤a) (ha2:a≤9223372036854775807) (hb2:b≤9223372036854775807) :
   Calls Tryz.prog 9 #[.int .i64 a,.int .i64 b] w (Bl w q 0):=by
 have h:=EN' (w:=w) (a:=a) (b:=b) ha1 ha2 (by omega) hb2
 rw [if_neg (by omega),if_neg (by omega),if_neg (by omega),Rat.mkRat_eq_div] at h
 have e:((b.natAbs:Int):Rat)=(b:Rat):=by rw [Int.natAbs_of_nonneg (by omega)]
 rw [←hq,←e]
 exact h
theorem Cd' {w:World} {N:Int} {D:Nat} {q:Rat} (hN1 : -2147483648≤N) (hN2:N≤2147483647) (hD:D≤255) (hq:AE N D=q) :
   Calls Tryz.prog 16 #[.agg #[.int .i32 N,.int .u8 ((D:Nat):Int)]] w (Ao' w q):=by
 have hD16:((D:Nat):Int)%16=((D%16:Nat):Int):=by omega
 have hDt:Int.tmod ((D:Nat):Int) 16=((D%16:Nat):Int):=by rw [Int.tmod_eq_emod_of_nonneg (by omega)];exact hD16
 have hk:D%16<16:=Nat.mod_lt _ (by omega)
 obtain ⟨k,ek⟩:=eY (D%16)
 rw [ek] at hD16 hDt hk
 have hw1:IntKind.i64.wrap N=N:=by
   unfold IntKind.wrap
   simp [IntKind.bits,IntKind.signed]
   omega
 have hw2:IntKind.u8.wrap ((k:Nat):Int)=((k:Nat):Int):=by
   unfold IntKind.wrap
   simp [IntKind.bits,IntKind.signed]
   omega
 have hw3:IntKind.i64.wrap ((k:Nat):Int)=((k:Nat):Int):=by
   unfold IntKind.wrap
   simp [IntKind.bits,IntKind.signed]
   omega
 have hw4:IntKind.i64.wrap (((k:Nat):Int)+1)=((k:Nat):Int)+1:=by
   unfold IntKind.wrap
   simp [IntKind.bits,IntKind.signed]
   omega
 have hq2:(N:Rat) / ((((k:Nat):Int)+1:Int):Rat)=q:=by rw [←hq];unfold AE;rw [ek];rfl
 have hk1:(0:Int)<((k:Nat):Int)+1:=by omega
 have hk2:((k:Nat):Int)+1≤9223372036854775807:=by omega
 have hn1:(-9223372036854775808:Int)≤N:=by omega
 have hn2:N≤9223372036854775807:=by omega
 clear hq hN1 hN2
 replace hq2:=hid hq2
 replace ek:=hid ek
 replace hk1:=hid hk1
 replace hk2:=hid hk2
 replace hn1:=hid hn1
 replace hn2:=hid hn2
 replace hk:=hid hk
 clear hD
 obtain ⟨w1,hw⟩:=eX ((w.alloc (.cells #[.int .i32 N,.int .u8 ((D:Nat):Int)] 23)).alloc (.cells #[.bool false,.slice none 0 0,.slice none 0 0] 32))
 obtain ⟨b1,g1,g2⟩:=CV hw
 obtain ⟨z0,z1⟩:w1.cell? ⟨w.heap.size,0,none⟩=some (.int .i32 N)∧w1.cell? ⟨w.heap.size,1,none⟩=some (.int .u8 ((D:Nat):Int)):=⟨cR _ _ 0 _ _ _ g1,cR _ _ 1 _ _ _ g1⟩
 replace b1:=hid b1
 replace g1:=hid g1
 replace g2:=hid g2
 go_enter Tryz.func16,Tryz.ntmps16
 go_upto_region 1 with fail
 rw [←hw]
 clear hw
 have HX:=hid (BY' (w:=w1) hq2.out hk1.out hn1.out hn2.out hk2.out)
 go_wp2_with fail
 refine (HX.out).mono ?_
 rintro e w2 ⟨v2,rfl,hv2,b2⟩
 obtain ⟨C1,j1,C2,j2,rfl,-,-⟩:=id hv2.opened
 replace hv2:=hid hv2
 replace b2:=hid b2
 clear HX
 go_upto_region 2 with fail
 obtain ⟨w3,hw3⟩:=eX (w2.alloc (.cells #[.bool (decide (q.num<0)),.slice C1 (Vx.len q.num.natAbs) j1,.slice C2 (Vx.len (below q.den)) j2] 32))
 have b3:=hid (Ar hw3)
 have L3:=hid (At' hw3)
 rw [←hw3]
 clear hw3
 obtain ⟨z_o_0,z_o_1,z_o_2⟩:=Ae L3.out
 have y1_3:=hid (bS b2.out b3.out)
 have DR:=(Ac' g2.out y1_3.out)
 have q0:w3.cell? ⟨w.heap.size+1,0,none⟩=some (.bool false):=cR _ _ _ _ _ _ DR
 have F0:w3.frozen? ⟨w.heap.size+1,0,none⟩=false:=fR w3 (w.heap.size+1) 0 _ _ DR
 have q1:w3.cell? ⟨w.heap.size+1,1,none⟩=some (.slice none 0 0):=cR _ _ _ _ _ _ DR
 have F1:w3.frozen? ⟨w.heap.size+1,1,none⟩=false:=fR w3 (w.heap.size+1) 1 _ _ DR
 have q2:w3.cell? ⟨w.heap.size+1,2,none⟩=some (.slice none 0 0):=cR _ _ _ _ _ _ DR
 have F2:w3.frozen? ⟨w.heap.size+1,2,none⟩=false:=fR w3 (w.heap.size+1) 2 _ _ DR
 have y0_3:=hid (bS (bS b1.out b2.out) b3.out)
 have FB:=y0_3.out
 have FV:=(hv2.out.keep b3.out)
 obtain ⟨ue,hw⟩:=eX ((((w3.setCell ⟨w.heap.size+1,0,none⟩ (.bool (decide (q.num<0)))).setCell ⟨w.heap.size+1,1,none⟩ (.slice C1 (Vx.len q.num.natAbs) j1)).setCell ⟨w.heap.size+1,2,none⟩ (.slice C2 (Vx.len (below q.den)) j2)))
 obtain ⟨E_ue,-,LV,BL⟩:=As' DR hw
 have FE:=hid (LV.num FV)
 replace FB:=hid (BL _ _ (by omega) FB)
 replace E_ue:=hid E_ue
 replace hw:=hid hw
 clear DR FV LV BL
 go_wp2_with fail
 rw [←hw.out]
 obtain ⟨r0,r1,r2⟩:=Ae E_ue.out
 refine bP (v:=.agg #[.bool (decide (q.num<0)),.slice C1 (Vx.len q.num.natAbs) j1,.slice C2 (Vx.len (below q.den)) j2]) ?_ rfl ⟨_,rfl,FE.out,FB.out⟩
 simp [results,Tryz.results16,go_sem,r0,r1,r2]
theorem Df {w:World} {N:Int} {D:Nat} {q:Rat} (hN1 : -2147483648≤N) (hN2:N≤2147483647) (hD:D≤255) (hq:AE N D=q) :
   Calls Tryz.prog 24 #[.agg #[.int .i32 N,.int .u8 ((D:Nat):Int)]] w (BW' w q):=by
 have hD16:((D:Nat):Int)%16=((D%16:Nat):Int):=by omega
 have hDt:Int.tmod ((D:Nat):Int) 16=((D%16:Nat):Int):=by rw [Int.tmod_eq_emod_of_nonneg (by omega)];exact hD16
 have hk:D%16<16:=Nat.mod_lt _ (by omega)
 obtain ⟨k,ek⟩:=eY (D%16)
 rw [ek] at hD16 hDt hk
 have hw1:IntKind.i64.wrap N=N:=by
   unfold IntKind.wrap
   simp [IntKind.bits,IntKind.signed]
   omega
 have hw2:IntKind.u8.wrap ((k:Nat):Int)=((k:Nat):Int):=by
   unfold IntKind.wrap
   simp [IntKind.bits,IntKind.signed]
   omega
 have hw3:IntKind.i64.wrap ((k:Nat):Int)=((k:Nat):Int):=by
   unfold IntKind.wrap
   simp [IntKind.bits,IntKind.signed]
   omega
 have hw4:IntKind.i64.wrap (((k:Nat):Int)+1)=((k:Nat):Int)+1:=by
   unfold IntKind.wrap
   simp [IntKind.bits,IntKind.signed]
   omega
 have hq2:(N:Rat) / ((((k:Nat):Int)+1:Int):Rat)=q:=by rw [←hq];unfold AE;rw [ek];rfl
 have hk1:(0:Int)<((k:Nat):Int)+1:=by omega
 have hk2:((k:Nat):Int)+1≤9223372036854775807:=by omega
 have hn1:(-9223372036854775808:Int)≤N:=by omega
 have hn2:N≤9223372036854775807:=by omega
 clear hq hN1 hN2
 replace hq2:=hid hq2
 replace ek:=hid ek
 replace hk1:=hid hk1
 replace hk2:=hid hk2
 replace hn1:=hid hn1
 replace hn2:=hid hn2
 replace hk:=hid hk
 clear hD
 obtain ⟨w1,hw⟩:=eX ((w.alloc (.cells #[.int .i32 N,.int .u8 ((D:Nat):Int)] 23)).alloc (.cells #[.bool false,.slice none 0 0,.slice none 0 0] 38))
 obtain ⟨b1,g1,g2⟩:=CV hw
 obtain ⟨z0,z1⟩:w1.cell? ⟨w.heap.size,0,none⟩=some (.int .i32 N)∧w1.cell? ⟨w.heap.size,1,none⟩=some (.int .u8 ((D:Nat):Int)):=⟨cR _ _ 0 _ _ _ g1,cR _ _ 1 _ _ _ g1⟩
 replace b1:=hid b1
 replace g1:=hid g1
 replace g2:=hid g2
 go_enter Tryz.func24,Tryz.ntmps24
 go_upto_region 1 with fail
 rw [←hw]
 clear hw
 have HX:=hid (Gu (w:=w1) hq2.out (by have:=hk1.out;omega) hn1.out hn2.out (by have:=hk1.out;omega) hk2.out)
 go_wp2_with fail
 refine (HX.out).mono ?_
 rintro e w2 ⟨v2,rfl,hv2,b2⟩
 obtain ⟨C1,j1,C2,j2,rfl,-,-⟩:=id hv2.opened
 replace hv2:=hid hv2
 replace b2:=hid b2
 clear HX
 have DR:=(Ac' g2.out b2.out)
 have q0:w2.cell? ⟨w.heap.size+1,0,none⟩=some (.bool false):=cR _ _ _ _ _ _ DR
 have F0:w2.frozen? ⟨w.heap.size+1,0,none⟩=false:=fR w2 (w.heap.size+1) 0 _ _ DR
 have q1:w2.cell? ⟨w.heap.size+1,1,none⟩=some (.slice none 0 0):=cR _ _ _ _ _ _ DR
 have F1:w2.frozen? ⟨w.heap.size+1,1,none⟩=false:=fR w2 (w.heap.size+1) 1 _ _ DR
 have q2:w2.cell? ⟨w.heap.size+1,2,none⟩=some (.slice none 0 0):=cR _ _ _ _ _ _ DR
 have F2:w2.frozen? ⟨w.heap.size+1,2,none⟩=false:=fR w2 (w.heap.size+1) 2 _ _ DR
 have y0_2:=hid (bS b1.out b2.out)
 have FB:=y0_2.out
 have FV:=hv2.out
 obtain ⟨ue,hw⟩:=eX ((((w2.setCell ⟨w.heap.size+1,0,none⟩ (.bool (decide (q.num<0)))).setCell ⟨w.heap.size+1,1,none⟩ (.slice C1 (len q.num.natAbs) j1)).setCell ⟨w.heap.size+1,2,none⟩ (.slice C2 (len q.den) j2)))
 obtain ⟨E_ue,-,LV,BL⟩:=As' DR hw
 have FE:=hid (LV.rat FV)
 replace FB:=hid (BL _ _ (by omega) FB)
 replace E_ue:=hid E_ue
 replace hw:=hid hw
 clear DR FV LV BL
 go_wp2_with fail
 rw [←hw.out]
 obtain ⟨r0,r1,r2⟩:=Ae E_ue.out
 refine bP (v:=.agg #[.bool (decide (q.num<0)),.slice C1 (len q.num.natAbs) j1,.slice C2 (len q.den) j2]) ?_ rfl ⟨_,rfl,FE.out,FB.out⟩
 simp [results,Tryz.results24,go_sem,r0,r1,r2]
end Go.Proofs.YtcicfnlljdnagaaGreatDoor.Rf
namespace Go.Proofs.YtcicfnlljdnagaaGreatDoor
open Lib (hid)
open Vx
theorem Im' {q:Rat}:0≤q.num↔0≤q:=by rw [Rat.num_nonneg]
end Go.Proofs.YtcicfnlljdnagaaGreatDoor
namespace Go.Proofs.YtcicfnlljdnagaaGreatDoor.Rf
open Lib (hid)
open Go.RowKit
open Rx
open Vx (Ab' Ah Ah')
open List renaming getElem?_toArray → lg, getElem?_cons_zero → lz, getElem?_cons_succ → ls, setIfInBounds_toArray → lt, set_cons_zero → ly, set_cons_succ → lu
def Hb' (w:World) (cx cg:Array Value) (p g:Rat) (wr:World):Prop :=
  wr.heap[w.heap.size]?=some (.cells cx 38 (0,0))∧wr.heap[w.heap.size+1]?=some (.cells cg 38 (0,0))∧wr.heap[w.heap.size+2]?=some (.cells #[.bool false,.slice none 0 0,.slice none 0 0] 38 (0,0))∧Av' wr (.agg cx) p∧Av' wr (.agg cg) g∧Below w.heap.size w wr
theorem Hb'.keep {w:World} {cx cg:Array Value} {p g:Rat} {u v:World} (h:Hb' w cx cg p g u) (hb:Below u.heap.size u v):Hb' w cx cg p g v :=
 ⟨Ac' h.1 hb,Ac' h.2.1 hb,Ac' h.2.2.1 hb,h.2.2.2.1.keep hb,h.2.2.2.2.1.keep hb,Ae' h.2.2.2.2.2 hb⟩
end Go.Proofs.YtcicfnlljdnagaaGreatDoor.Rf
