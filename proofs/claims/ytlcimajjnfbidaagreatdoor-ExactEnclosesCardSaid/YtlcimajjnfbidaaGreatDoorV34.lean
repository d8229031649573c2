/-
  Contracts of the functions that the law calls, for every input (LawE).
-/
import Derived.Test.YtlcimajjnfbidaaGreatDoorV00
import Derived.Test.YtlcimajjnfbidaaGreatDoorV21
import Derived.Test.YtlcimajjnfbidaaGreatDoorV23
import Derived.Test.YtlcimajjnfbidaaGreatDoorV33
set_option linter.all false
set_option maxRecDepth 100000
set_option maxHeartbeats 40000000
namespace Go.Proofs.YtlcimajjnfbidaaGreatDoor
open Lib (hid)
open Go.RowKit
open Vx
open List renaming getElem?_toArray → lg, getElem?_cons_zero → lz, getElem?_cons_succ → ls, setIfInBounds_toArray → lt, set_cons_zero → ly, set_cons_succ → lu
theorem span_q {w:World} {vx vy:Value} {x y l h:Rat} (hl:x=l) (hh:y=h) (hx:IsNum w vx x) (hy:IsNum w vy y) (hs:siz x≤34359738368) (ht:siz y≤34359738368) (hle:x≤y) :
   Calls Tryz.prog 56 #[vx,vy] w (BoxErrRet w l h 0):=by
 rw [←hl,←hh]
 exact span_yes hx hy hs ht hle
theorem two_keep {w w':World} {b:Nat} {x y:Value} (h:w.cell? ⟨b,0,none⟩=some x∧w.cell? ⟨b,1,none⟩=some y) (hb:Below w.heap.size w w'):w'.cell? ⟨b,0,none⟩=some x∧w'.cell? ⟨b,1,none⟩=some y :=
 ⟨(hb.cell (p:=⟨b,0,none⟩) (World.block_lt_of_cell? w _ h.1)).trans h.1,(hb.cell (p:=⟨b,1,none⟩) (World.block_lt_of_cell? w _ h.2)).trans h.2⟩
theorem two_put {w:World} {b g:Nat} {x y:Value} {p:Pt} (h:w.cell? ⟨b,0,none⟩=some x∧w.cell? ⟨b,1,none⟩=some y) (hne:b≠g):(put3 w g p).cell? ⟨b,0,none⟩=some x∧(put3 w g p).cell? ⟨b,1,none⟩=some y:=by
 unfold put3
 constructor
 · rw [World.cell?_setCell_other _ _ _ _ (by intro e;injection e with e1;omega),World.cell?_setCell_other _ _ _ _ (by intro e;injection e with e1;omega),World.cell?_setCell_other _ _ _ _ (by intro e;injection e with e1;omega)]
   exact h.1
 · rw [World.cell?_setCell_other _ _ _ _ (by intro e;injection e with e1;omega),World.cell?_setCell_other _ _ _ _ (by intro e;injection e with e1;omega),World.cell?_setCell_other _ _ _ _ (by intro e;injection e with e1;omega)]
   exact h.2
theorem IsNum.put3 {w:World} {v:Value} {q:Rat} {b:Nat} {p r:Pt} (h:IsNum w v q) (L:Loc w b p):IsNum (Go.Proofs.YtlcimajjnfbidaaGreatDoor.put3 w b r) v q:=by
 have k0:Kept 3 31 w b w:=Kept.start rfl (plain3 _ _ _ _ _ _ _) L
 have k1:=k0.set (i:=0) (bool_plain r.s)
 have k2:=k1.set (i:=1) (slice_plain r.A1 r.n1 r.c1)
 exact ((h.put k0).put k1).put k2
theorem zero_below (u:World):Below u.heap.size u (u.alloc (.cells #[.bool false,.slice none 0 0,.slice none 0 0] 31)):=(Below.refl _ _).alloc (Nat.le_refl _) _
theorem zero_loc (u:World):Loc (u.alloc (.cells #[.bool false,.slice none 0 0,.slice none 0 0] 31)) u.heap.size ⟨false,none,0,0,none,0,0⟩:=heap_alloc_new u _
theorem box_to {w:World} {s1 s2:ByteArray} {mx:Int} {a b l h:Rat} (hM:w.cell? ⟨1,0,none⟩=some (.int .i64 mx)) (ea:(parseV s1).1=a) (eb:(parseV s2).1=b) (hlow:l=if b<a then b else a) (hhigh:h=if b<a then a else b) :
   Calls Tryz.prog 42 #[.agg #[.string s1,.string s2]] w (BoxRet w l h):=by
 have za:Hid (siz a≤34359738368):=by show _≤_;rw [←ea];exact Nat.le_trans (parse_sizF _) (by omega)
 have zb:Hid (siz b≤34359738368):=by show _≤_;rw [←eb];exact Nat.le_trans (parse_sizF _) (by omega)
 obtain ⟨wB,hwB⟩:=eX ((w.alloc (.cells #[.string s1,.string s2] 46)).alloc (.cells #[.bool false,.slice none 0 0,.slice none 0 0,.bool false,.slice none 0 0,.slice none 0 0] 48))
 obtain ⟨b0,g0,g1⟩:=news2' hwB
 have k0:wB.cell? ⟨w.heap.size,0,none⟩=some (.string s1):=cell_of_row _ _ _ _ _ _ g0
 have k1:wB.cell? ⟨w.heap.size,1,none⟩=some (.string s2):=cell_of_row _ _ _ _ _ _ g0
 have HKB:=hid (Kept.start (T:=48) rfl plain6 g1)
 have HB0:=hid b0
 have HMB:=hid (cell_keepF hM b0)
 clear g0 g1 b0 hM
 replace ea:=hid ea
 replace eb:=hid eb
 replace hlow:=hid hlow
 replace hhigh:=hid hhigh
 obtain ⟨w0,hw0⟩:=eX wB.drew
 have hbd:Hid (Below wB.heap.size wB w0):=by rw [hw0];exact ⟨rfl,rfl,rfl,Nat.le_refl _,fun _ _=>rfl⟩
 have hS0:=two_keep ⟨k0,k1⟩ hbd.out
 have HK0:=hid (HKB.out.call hbd.out)
 have HM0:=hid (cell_keepF HMB.out hbd.out)
 clear HKB HMB hbd
 go_enter Tryz.func42,Tryz.ntmps42
 go_upto_region 1 with fail
 rw [←hwB]
 clear hwB
 go_wp2_with fail
 refine wp_region_held_drew (S:=(fun w'=>w'.cell? ⟨w.heap.size,0,none⟩=some (.string s1)∧w'.cell? ⟨w.heap.size,1,none⟩=some (.string s2))) (by kernel_rfl) ?_ (fun hHeld=>?_)
 · (try dsimp only)
   rw [←hw0];exact hS0
 rw [←hw0] at hHeld ⊢
 clear hw0 k0 k1
 refine wpAnyH_take (i:=0) (v:=?v0) (oi:=?o0) ?e0 ?a0 ?b0 ?c0 ?d0 ?y0 ?s0 ?r0
 case e0=>simp only [lg,lz,ls];rfl
 case a0=>kernel_rfl
 case b0=>kernel_rfl
 case c0=>kernel_rfl
 case d0=>exact fun _ _ _ h=>h
 case y0 =>
   refine Or.inl ⟨by rfl,?_⟩
   intro w hSw
   (try dsimp only at hSw)
   go_simp
   try with_reducible rfl
 case s0=>assumption
 try simp only [Act.put,lt,ly,lu]
 refine wpAnyH_take (i:=1) (v:=?v1) (oi:=?o1) ?e1 ?a1 ?b1 ?c1 ?d1 ?y1 ?s1 ?r1
 case e1=>simp only [lg,lz,ls];rfl
 case a1=>kernel_rfl
 case b1=>kernel_rfl
 case c1=>kernel_rfl
 case d1=>exact fun _ _ _ h=>h
 case y1 =>
   refine Or.inl ⟨by rfl,?_⟩
   intro w hSw
   (try dsimp only at hSw)
   go_simp
   try with_reducible rfl
 case s1=>assumption
 try simp only [Act.put,lt,ly,lu]
 refine wpAnyH_take (i:=3) (v:=?v3) (oi:=?o3) ?e3 ?a3 ?b3 ?c3 ?d3 ?y3 ?s3 ?r3
 case e3=>simp only [lg,lz,ls];rfl
 case a3=>kernel_rfl
 case b3=>kernel_rfl
 case c3=>kernel_rfl
 case d3=>exact fun _ _ _ h=>h
 case y3 =>
   refine Or.inl ⟨by rfl,?_⟩
   intro w hSw
   (try dsimp only at hSw)
   go_simp
   try with_reducible rfl
 case s3=>assumption
 try simp only [Act.put,lt,ly,lu]
 refine wpAnyH_take (i:=4) (v:=?v4) (oi:=?o4) ?e4 ?a4 ?b4 ?c4 ?d4 ?y4 ?s4 ?r4
 case e4=>simp only [lg,lz,ls];rfl
 case a4=>kernel_rfl
 case b4=>kernel_rfl
 case c4=>kernel_rfl
 case d4=>exact fun _ _ _ h=>h
 case y4 =>
   refine Or.inl ⟨by rfl,?_⟩
   intro w hSw
   (try dsimp only at hSw)
   go_simp
   try with_reducible rfl
 case s4=>assumption
 try simp only [Act.put,lt,ly,lu]
 generalize hF:wpAnyH _ _ _ _ _=F
 replace hF:=hid hF
 refine letters ?_
 intro A0 hA
 replace hA:=hid hA
 clear hHeld
 have st2_34:∀ (L:Array Bool) (uw:World) (v9 v12:Value) (N3 N4:Nat),L=#[true,true,true,true,true,true,true,true,false,false]→uw.cell? ⟨w.heap.size,0,none⟩=some (.string s1)∧uw.cell? ⟨w.heap.size,1,none⟩=some (.string s2)→Hid (Kept 6 48 wB (w.heap.size+1) uw)→Hid (uw.cell? ⟨1,0,none⟩=some (.int .i64 mx))→Hid (IsNum uw v9 a)→Hid (IsNum uw v12 b)→Hid (Loc uw N3 ⟨false,none,0,0,none,0,0⟩)→w.heap.size+1<N3→Hid (Loc uw N4 ⟨false,none,0,0,none,0,0⟩)→w.heap.size+1<N4→N3≠N4→F 2 L (Act.put (Act.put (Act.put (Act.put A0 (some 3) (.pointer (some ⟨N3,0,none⟩))) (some 4) (.pointer (some ⟨N4,0,none⟩))) (some 9) v9) (some 12) v12) uw:=by
   intro L uw v9 v12 N3 N4 hLL hS HK HM I1 I2 Z3 hlo3 Z4 hlo4 ne34
   subst hLL
   rw [←hF.out,←hA.out]
   try simp only [Act.put,lt,ly,lu]
   obtain ⟨C1,j1,C2,j2,rfl,-,-⟩:=id I1.out.opened
   obtain ⟨C3,j3,C4,j4,rfl,-,-⟩:=id I2.out.opened
   clear hF hA
   refine wpAnyH_ready (rs:=[8]) (by kernel_rfl) (by simp) ?_
   refine AllReadyH.cons (o:=?o8q471) ?e8q471 ?k8q471 AllReadyH.nil
   case e8q471=>simp only [lg,lz,ls];rfl
   intro K hK
   have q0:=Z3.out.c0
   have q1:=Z3.out.c1'
   have q2:=Z3.out.c2'
   have F0:=Z3.out.fr 0
   have F1:=Z3.out.fr 1
   have F2:=Z3.out.fr 2
   go_simp
   clear q0 q1 q2 F0 F1 F2
   refine hK.out _ _ ?_ (fun hHeld=>?_)
   · (try dsimp only)
     exact two_put (p:=⟨decide (a.num<0),C1,len a.num.natAbs,j1,C2,len (below a.den),j2⟩) hS (by omega)
   clear hK K
   try simp only [Act.put,lt,ly,lu]
   obtain ⟨u472,hw⟩:=eX ((((uw.setCell ⟨N3,0,none⟩ (.bool (decide (a.num<0)))).setCell ⟨N3,1,none⟩ (.slice C1 (len a.num.natAbs) j1)).setCell ⟨N3,2,none⟩ (.slice C2 (len (below a.den)) j2)))
   have hw':u472=put3 uw N3 ⟨decide (a.num<0),C1,len a.num.natAbs,j1,C2,len (below a.den),j2⟩:=hw
   rw [←hw] at hHeld ⊢
   have hS473:=two_put (p:=⟨decide (a.num<0),C1,len a.num.natAbs,j1,C2,len (below a.den),j2⟩) hS (show w.heap.size≠N3 by omega)
   rw [←hw'] at hS473
   have HK474:Hid (Kept 6 48 wB (w.heap.size+1) u472):=by rw [hw'];exact HK.out.put3 (by omega)
   have N1x475:Hid (IsNum u472 (.agg #[.bool (decide (a.num<0)),.slice C1 (len a.num.natAbs) j1,.slice C2 (len (below a.den)) j2]) a):=by rw [hw'];exact IsNum.put3 I1.out Z3.out
   have N2x476:Hid (IsNum u472 (.agg #[.bool (decide (b.num<0)),.slice C3 (len b.num.natAbs) j3,.slice C4 (len (below b.den)) j4]) b):=by rw [hw'];exact IsNum.put3 I2.out Z3.out
   have L3x477:Hid (Loc u472 N3 ⟨decide (a.num<0),C1,len a.num.natAbs,j1,C2,len (below a.den),j2⟩):=by rw [hw'];exact Z3.out.put3
   have L4x478:Hid (Loc u472 N4 ⟨false,none,0,0,none,0,0⟩):=by rw [hw'];exact Z4.out.put3o (by omega)
   clear hw hw' hS HK I1 I2 Z3 Z4
   refine wpAnyH_ready (rs:=[9]) (by kernel_rfl) (by simp) ?_
   refine AllReadyH.cons (o:=?o9q479) ?e9q479 ?k9q479 AllReadyH.nil
   case e9q479=>simp only [lg,lz,ls];rfl
   intro K hK
   have q0:=L4x478.out.c0
   have q1:=L4x478.out.c1'
   have q2:=L4x478.out.c2'
   have F0:=L4x478.out.fr 0
   have F1:=L4x478.out.fr 1
   have F2:=L4x478.out.fr 2
   go_simp
   clear q0 q1 q2 F0 F1 F2
   refine hK.out _ _ ?_ (fun hHeld=>?_)
   · (try dsimp only)
     exact two_put (p:=⟨decide (b.num<0),C3,len b.num.natAbs,j3,C4,len (below b.den),j4⟩) hS473 (by omega)
   clear hK K
   try simp only [Act.put,lt,ly,lu]
   obtain ⟨u480,hw⟩:=eX ((((u472.setCell ⟨N4,0,none⟩ (.bool (decide (b.num<0)))).setCell ⟨N4,1,none⟩ (.slice C3 (len b.num.natAbs) j3)).setCell ⟨N4,2,none⟩ (.slice C4 (len (below b.den)) j4)))
   have hw':u480=put3 u472 N4 ⟨decide (b.num<0),C3,len b.num.natAbs,j3,C4,len (below b.den),j4⟩:=hw
   rw [←hw] at hHeld ⊢
   have hS481:=two_put (p:=⟨decide (b.num<0),C3,len b.num.natAbs,j3,C4,len (below b.den),j4⟩) hS473 (show w.heap.size≠N4 by omega)
   rw [←hw'] at hS481
   have HK482:Hid (Kept 6 48 wB (w.heap.size+1) u480):=by rw [hw'];exact HK474.out.put3 (by omega)
   have N1x483:Hid (IsNum u480 (.agg #[.bool (decide (a.num<0)),.slice C1 (len a.num.natAbs) j1,.slice C2 (len (below a.den)) j2]) a):=by rw [hw'];exact IsNum.put3 N1x475.out L4x478.out
   have N2x484:Hid (IsNum u480 (.agg #[.bool (decide (b.num<0)),.slice C3 (len b.num.natAbs) j3,.slice C4 (len (below b.den)) j4]) b):=by rw [hw'];exact IsNum.put3 N2x476.out L4x478.out
   have L3x485:Hid (Loc u480 N3 ⟨decide (a.num<0),C1,len a.num.natAbs,j1,C2,len (below a.den),j2⟩):=by rw [hw'];exact L3x477.out.put3o (by omega)
   have L4x486:Hid (Loc u480 N4 ⟨decide (b.num<0),C3,len b.num.natAbs,j3,C4,len (below b.den),j4⟩):=by rw [hw'];exact L4x478.out.put3
   clear hw hw' hS473 HK474 N1x475 N2x476 L3x477 L4x478
   refine wpAnyH_done (by kernel_rfl) ?_ _
   have HX:=hid (numCmp_any N1x483.out N2x484.out za.out zb.out)
   obtain ⟨cc,hcc⟩:=eX (cmpQ a b:Int)
   rw [←hcc] at HX
   replace hcc:=hid hcc
   have x0:=L3x485.out.c0
   have x1:=L3x485.out.c1'
   have x2:=L3x485.out.c2'
   have y0:=L4x486.out.c0
   have y1:=L4x486.out.c1'
   have y2:=L4x486.out.c2'
   rcases Decidable.em (b<a) with hlt | hge
   · have hd:decide (cc>0)=true:=decide_eq_true (by rw [hcc.out,cmpQ_gt0];exact hlt)
     have hle:b≤a:=Rat.le_of_lt hlt
     have HL:=hlow.out
     have HH:=hhigh.out
     rw [if_pos hlt] at HL
     rw [if_pos hlt] at HH
     replace HL:=hid HL
     replace HH:=hid HH
     replace hle:=hid hle
     go_wp2_with fail
     refine (HX.out).mono ?_
     rintro e w1 ⟨rfl,b1⟩
     have K1:=hid (HK482.out.call b1)
     have M1:=hid (IsNum.keep N1x483.out b1)
     have M2:=hid (IsNum.keep N2x484.out b1)
     have R3:=hid (Loc.call L3x485.out b1)
     have R4:=hid (Loc.call L4x486.out b1)
     clear HX x0 x1 x2 y0 y1 y2 b1 HK482 N1x483 N2x484 L3x485 L4x486 hlt
     have x0:=R3.out.c0
     have x1:=R3.out.c1'
     have x2:=R3.out.c2'
     have y0:=R4.out.c0
     have y1:=R4.out.c1'
     have y2:=R4.out.c2'
     have F30:=R3.out.fr 0
     have F31:=R3.out.fr 1
     have F32:=R3.out.fr 2
     have F40:=R4.out.fr 0
     have F41:=R4.out.fr 1
     have F42:=R4.out.fr 2
     have hn34:N3≠N4:=by omega
     have hn43:N4≠N3:=by omega
     go_upto_region 4 with fail
     obtain ⟨w2,hw2⟩:=eX (((((((w1.setCell ⟨N3,0,none⟩ (.bool (decide (b.num<0)))).setCell ⟨N3,1,none⟩ (.slice C3 (len b.num.natAbs) j3)).setCell ⟨N3,2,none⟩ (.slice C4 (len (below b.den)) j4)).setCell ⟨N4,0,none⟩ (.bool (decide (a.num<0)))).setCell ⟨N4,1,none⟩ (.slice C1 (len a.num.natAbs) j1)).setCell ⟨N4,2,none⟩ (.slice C2 (len (below a.den)) j2)))
     have hw2':w2=put3 (put3 w1 N3 ⟨decide (b.num<0),C3,len b.num.natAbs,j3,C4,len (below b.den),j4⟩) N4 ⟨decide (a.num<0),C1,len a.num.natAbs,j1,C2,len (below a.den),j2⟩:=hw2
     rw [←hw2]
     have Q3:Loc (put3 w1 N3 ⟨decide (b.num<0),C3,len b.num.natAbs,j3,C4,len (below b.den),j4⟩) N3 ⟨decide (b.num<0),C3,len b.num.natAbs,j3,C4,len (below b.den),j4⟩:=R3.out.put3
     have Q4:Loc (put3 w1 N3 ⟨decide (b.num<0),C3,len b.num.natAbs,j3,C4,len (below b.den),j4⟩) N4 ⟨decide (b.num<0),C3,len b.num.natAbs,j3,C4,len (below b.den),j4⟩:=R4.out.put3o hn43
     have K2:Hid (Kept 6 48 wB (w.heap.size+1) w2):=by rw [hw2'];exact (K1.out.put3 (by omega)).put3 (by omega)
     have T1:Hid (IsNum w2 (.agg #[.bool (decide (a.num<0)),.slice C1 (len a.num.natAbs) j1,.slice C2 (len (below a.den)) j2]) a):=by rw [hw2'];exact (IsNum.put3 M1.out R3.out).put3 Q4
     have T2:Hid (IsNum w2 (.agg #[.bool (decide (b.num<0)),.slice C3 (len b.num.natAbs) j3,.slice C4 (len (below b.den)) j4]) b):=by rw [hw2'];exact (IsNum.put3 M2.out R3.out).put3 Q4
     have Z3:Hid (Loc w2 N3 ⟨decide (b.num<0),C3,len b.num.natAbs,j3,C4,len (below b.den),j4⟩):=by rw [hw2'];exact Q3.put3o hn34
     have Z4:Hid (Loc w2 N4 ⟨decide (a.num<0),C1,len a.num.natAbs,j1,C2,len (below a.den),j2⟩):=by rw [hw2'];exact Q4.put3
     clear hw2 hw2' Q3 Q4 K1 M1 M2 R3 R4 F30 F31 F32 F40 F41 F42 x0 x1 x2 y0 y1 y2
     have x0:=Z3.out.c0
     have x1:=Z3.out.c1'
     have x2:=Z3.out.c2'
     have y0:=Z4.out.c0
     have y1:=Z4.out.c1'
     have y2:=Z4.out.c2'
     have HX:=hid (span_q HL.out.symm HH.out.symm T2.out T1.out zb.out za.out hle.out)
     go_wp2_with fail
     refine (HX.out).mono ?_
     rintro e w3 ⟨v3,rfl,hv3,b3⟩
     obtain ⟨D1,d1,D2,d2,D3,d3,D4,d4,rfl,hp3,hq3⟩:=hv3.opened
     have K3:=hid (K2.out.call b3)
     clear HX b3
     go_upto_region 5 with fail
     obtain ⟨w4,hw4⟩:=eX (w3.alloc (.cells #[.bool (decide (l.num<0)),.slice D1 (len l.num.natAbs) d1,.slice D2 (len (below l.den)) d2,.bool (decide (h.num<0)),.slice D3 (len h.num.natAbs) d3,.slice D4 (len (below h.den)) d4] 48))
     have b4:Below w3.heap.size w3 w4:=by rw [hw4];exact (Below.refl _ _).alloc (Nat.le_refl _) _
     have g4:w4.heap[w3.heap.size]?=some (.cells #[.bool (decide (l.num<0)),.slice D1 (len l.num.natAbs) d1,.slice D2 (len (below l.den)) d2,.bool (decide (h.num<0)),.slice D3 (len h.num.natAbs) d3,.slice D4 (len (below h.den)) d4] 48 (0,0)):=by rw [hw4];exact heap_alloc_new w3 _
     rw [←hw4]
     clear hw4
     obtain ⟨p0,p1,p2,p3,p4,p5⟩:=cells6 g4
     have hk:=(K3.out.call b4).held6 (Stay.refl _)
     have hk':=hk
     unfold Held6 at hk'
     have hp4:=hp3.keep b4
     have hq4:=hq3.keep b4
     clear g4 b4 hp3 hq3 hv3
     obtain ⟨-,c0,c1',c2',c3',c4',c5',f0,f1,f2,f3,f4,f5,-⟩:=hk'
     have HD:=hk.done (p:=l) (q:=h) (s1:=decide (l.num<0)) (A1:=D1) (n1:=len l.num.natAbs) (c1:=d1) (A2:=D2) (n2:=len (below l.den)) (c2:=d2) (s2:=decide (h.num<0)) (A3:=D3) (n3:=len h.num.natAbs) (c3:=d3) (A4:=D4) (n4:=len (below h.den)) (c4:=d4) (hp4) (hq4)
     obtain ⟨d1,d2,d3⟩:=HD
     obtain ⟨r0,r1,r2,r3,r4,r5⟩:=cells6 d3
     have HD:=hid (And.intro d1 d2)
     clear d1 d2 d3
     go_wp2_with fail
     refine bodyPost_ret (v:=.agg #[.bool (decide (l.num<0)),.slice (D1) (len l.num.natAbs) (d1),.slice (D2) (len (below l.den)) (d2),.bool (decide (h.num<0)),.slice (D3) (len h.num.natAbs) (d3),.slice (D4) (len (below h.den)) (d4)]) ?_ rfl ⟨_,rfl,HD.out.1,below_to HB0.out (by omega) HD.out.2⟩
     simp [results,Tryz.results42,go_sem,r0,r1,r2,r3,r4,r5]
   · have hd:decide (cc>0)=false:=decide_eq_false (by rw [hcc.out,cmpQ_gt0];exact hge)
     have hle:a≤b:=Rat.not_lt.1 hge
     have HL:=hlow.out
     have HH:=hhigh.out
     rw [if_neg hge] at HL
     rw [if_neg hge] at HH
     replace HL:=hid HL
     replace HH:=hid HH
     replace hle:=hid hle
     go_wp2_with fail
     refine (HX.out).mono ?_
     rintro e w1 ⟨rfl,b1⟩
     have K1:=hid (HK482.out.call b1)
     have M1:=hid (IsNum.keep N1x483.out b1)
     have M2:=hid (IsNum.keep N2x484.out b1)
     have R3:=hid (Loc.call L3x485.out b1)
     have R4:=hid (Loc.call L4x486.out b1)
     clear HX x0 x1 x2 y0 y1 y2 b1 HK482 N1x483 N2x484 L3x485 L4x486 hge
     have x0:=R3.out.c0
     have x1:=R3.out.c1'
     have x2:=R3.out.c2'
     have y0:=R4.out.c0
     have y1:=R4.out.c1'
     have y2:=R4.out.c2'
     have HX:=hid (span_q HL.out.symm HH.out.symm M1.out M2.out za.out zb.out hle.out)
     go_wp2_with fail
     refine (HX.out).mono ?_
     rintro e w3 ⟨v3,rfl,hv3,b3⟩
     obtain ⟨D1,d1,D2,d2,D3,d3,D4,d4,rfl,hp3,hq3⟩:=hv3.opened
     have K3:=hid (K1.out.call b3)
     clear HX b3
     go_upto_region 5 with fail
     obtain ⟨w4,hw4⟩:=eX (w3.alloc (.cells #[.bool (decide (l.num<0)),.slice D1 (len l.num.natAbs) d1,.slice D2 (len (below l.den)) d2,.bool (decide (h.num<0)),.slice D3 (len h.num.natAbs) d3,.slice D4 (len (below h.den)) d4] 48))
     have b4:Below w3.heap.size w3 w4:=by rw [hw4];exact (Below.refl _ _).alloc (Nat.le_refl _) _
     have g4:w4.heap[w3.heap.size]?=some (.cells #[.bool (decide (l.num<0)),.slice D1 (len l.num.natAbs) d1,.slice D2 (len (below l.den)) d2,.bool (decide (h.num<0)),.slice D3 (len h.num.natAbs) d3,.slice D4 (len (below h.den)) d4] 48 (0,0)):=by rw [hw4];exact heap_alloc_new w3 _
     rw [←hw4]
     clear hw4
     obtain ⟨p0,p1,p2,p3,p4,p5⟩:=cells6 g4
     have hk:=(K3.out.call b4).held6 (Stay.refl _)
     have hk':=hk
     unfold Held6 at hk'
     have hp4:=hp3.keep b4
     have hq4:=hq3.keep b4
     clear g4 b4 hp3 hq3 hv3
     obtain ⟨-,c0,c1',c2',c3',c4',c5',f0,f1,f2,f3,f4,f5,-⟩:=hk'
     have HD:=hk.done (p:=l) (q:=h) (s1:=decide (l.num<0)) (A1:=D1) (n1:=len l.num.natAbs) (c1:=d1) (A2:=D2) (n2:=len (below l.den)) (c2:=d2) (s2:=decide (h.num<0)) (A3:=D3) (n3:=len h.num.natAbs) (c3:=d3) (A4:=D4) (n4:=len (below h.den)) (c4:=d4) (hp4) (hq4)
     obtain ⟨d1,d2,d3⟩:=HD
     obtain ⟨r0,r1,r2,r3,r4,r5⟩:=cells6 d3
     have HD:=hid (And.intro d1 d2)
     clear d1 d2 d3
     go_wp2_with fail
     refine bodyPost_ret (v:=.agg #[.bool (decide (l.num<0)),.slice (D1) (len l.num.natAbs) (d1),.slice (D2) (len (below l.den)) (d2),.bool (decide (h.num<0)),.slice (D3) (len h.num.natAbs) (d3),.slice (D4) (len (below h.den)) (d4)]) ?_ rfl ⟨_,rfl,HD.out.1,below_to HB0.out (by omega) HD.out.2⟩
     simp [results,Tryz.results42,go_sem,r0,r1,r2,r3,r4,r5]
 simp only [←hA.out,Act.put,lt,ly,lu] at st2_34
 replace st2_34:=hid st2_34
 have st2_3:∀ (L:Array Bool) (uw:World) (v9 v12:Value) (N3:Nat),L=#[true,true,true,true,true,true,true,false,false,false]→uw.cell? ⟨w.heap.size,0,none⟩=some (.string s1)∧uw.cell? ⟨w.heap.size,1,none⟩=some (.string s2)→Hid (Kept 6 48 wB (w.heap.size+1) uw)→Hid (uw.cell? ⟨1,0,none⟩=some (.int .i64 mx))→Hid (IsNum uw v9 a)→Hid (IsNum uw v12 b)→Hid (Loc uw N3 ⟨false,none,0,0,none,0,0⟩)→w.heap.size+1<N3→F 3 L (Act.put (Act.put (Act.put A0 (some 3) (.pointer (some ⟨N3,0,none⟩))) (some 9) v9) (some 12) v12) uw:=by
   intro L uw v9 v12 N3 hLL hS HK HM I1 I2 Z3 hlo3
   subst hLL
   rw [←hF.out,←hA.out]
   try simp only [Act.put,lt,ly,lu]
   refine wpAnyH_ready (rs:=[7]) (by kernel_rfl) (by simp) ?_
   refine AllReadyH.cons (o:=?o7z487) ?e7z487 ?k7z487 AllReadyH.nil
   case e7z487=>simp only [lg,lz,ls] <;> rfl
   case k7z487 =>
     intro K hK
     go_simp
     have hb2:=zero_below uw
     have Z2:=zero_loc uw
     refine hK.out _ _ ?_ (fun hHeld=>?_)
     · (try dsimp only)
       exact two_keep hS hb2
     clear hK K
     try simp only [Act.put,lt,ly,lu]
     rw [hF.out]
     exact st2_34.out _ _ v9 v12 N3 uw.heap.size (by kernel_rfl) (two_keep hS hb2) (HK.out.call hb2) (cell_keepF HM.out hb2) (I1.out.keep hb2) (I2.out.keep hb2) (Z3.out.call hb2) hlo3 Z2 HK.out.block_lt (Nat.ne_of_lt Z3.out.lt)
 simp only [←hA.out,Act.put,lt,ly,lu] at st2_3
 replace st2_3:=hid st2_3
 have st2_4:∀ (L:Array Bool) (uw:World) (v9 v12:Value) (N4:Nat),L=#[true,true,true,true,true,true,false,true,false,false]→uw.cell? ⟨w.heap.size,0,none⟩=some (.string s1)∧uw.cell? ⟨w.heap.size,1,none⟩=some (.string s2)→Hid (Kept 6 48 wB (w.heap.size+1) uw)→Hid (uw.cell? ⟨1,0,none⟩=some (.int .i64 mx))→Hid (IsNum uw v9 a)→Hid (IsNum uw v12 b)→Hid (Loc uw N4 ⟨false,none,0,0,none,0,0⟩)→w.heap.size+1<N4→F 3 L (Act.put (Act.put (Act.put A0 (some 4) (.pointer (some ⟨N4,0,none⟩))) (some 9) v9) (some 12) v12) uw:=by
   intro L uw v9 v12 N4 hLL hS HK HM I1 I2 Z4 hlo4
   subst hLL
   rw [←hF.out,←hA.out]
   try simp only [Act.put,lt,ly,lu]
   refine wpAnyH_ready (rs:=[6]) (by kernel_rfl) (by simp) ?_
   refine AllReadyH.cons (o:=?o6z488) ?e6z488 ?k6z488 AllReadyH.nil
   case e6z488=>simp only [lg,lz,ls] <;> rfl
   case k6z488 =>
     intro K hK
     go_simp
     have hb2:=zero_below uw
     have Z2:=zero_loc uw
     refine hK.out _ _ ?_ (fun hHeld=>?_)
     · (try dsimp only)
       exact two_keep hS hb2
     clear hK K
     try simp only [Act.put,lt,ly,lu]
     rw [hF.out]
     exact st2_34.out _ _ v9 v12 uw.heap.size N4 (by kernel_rfl) (two_keep hS hb2) (HK.out.call hb2) (cell_keepF HM.out hb2) (I1.out.keep hb2) (I2.out.keep hb2) Z2 HK.out.block_lt (Z4.out.call hb2) hlo4 (Nat.ne_of_gt Z4.out.lt)
 simp only [←hA.out,Act.put,lt,ly,lu] at st2_4
 replace st2_4:=hid st2_4
 have st2_n:∀ (L:Array Bool) (uw:World) (v9 v12:Value),L=#[true,true,true,true,true,true,false,false,false,false]→uw.cell? ⟨w.heap.size,0,none⟩=some (.string s1)∧uw.cell? ⟨w.heap.size,1,none⟩=some (.string s2)→Hid (Kept 6 48 wB (w.heap.size+1) uw)→Hid (uw.cell? ⟨1,0,none⟩=some (.int .i64 mx))→Hid (IsNum uw v9 a)→Hid (IsNum uw v12 b)→F 4 L (Act.put (Act.put A0 (some 9) v9) (some 12) v12) uw:=by
   intro L uw v9 v12 hLL hS HK HM I1 I2
   subst hLL
   rw [←hF.out,←hA.out]
   try simp only [Act.put,lt,ly,lu]
   refine wpAnyH_ready (rs:=[6,7]) (by kernel_rfl) (by simp) ?_
   refine AllReadyH.cons (o:=?o6z489) ?e6z489 ?k6z489 (AllReadyH.cons (o:=?o7z489) ?e7z489 ?k7z489 AllReadyH.nil)
   case e6z489=>simp only [lg,lz,ls] <;> rfl
   case e7z489=>simp only [lg,lz,ls] <;> rfl
   case k6z489 =>
     intro K hK
     go_simp
     have hb2:=zero_below uw
     have Z2:=zero_loc uw
     refine hK.out _ _ ?_ (fun hHeld=>?_)
     · (try dsimp only)
       exact two_keep hS hb2
     clear hK K
     try simp only [Act.put,lt,ly,lu]
     rw [hF.out]
     exact st2_3.out _ _ v9 v12 uw.heap.size (by kernel_rfl) (two_keep hS hb2) (HK.out.call hb2) (cell_keepF HM.out hb2) (I1.out.keep hb2) (I2.out.keep hb2) Z2 HK.out.block_lt
   case k7z489 =>
     intro K hK
     go_simp
     have hb2:=zero_below uw
     have Z2:=zero_loc uw
     refine hK.out _ _ ?_ (fun hHeld=>?_)
     · (try dsimp only)
       exact two_keep hS hb2
     clear hK K
     try simp only [Act.put,lt,ly,lu]
     rw [hF.out]
     exact st2_4.out _ _ v9 v12 uw.heap.size (by kernel_rfl) (two_keep hS hb2) (HK.out.call hb2) (cell_keepF HM.out hb2) (I1.out.keep hb2) (I2.out.keep hb2) Z2 HK.out.block_lt
 simp only [←hA.out,Act.put,lt,ly,lu] at st2_n
 replace st2_n:=hid st2_n
 have st1_34:∀ (L:Array Bool) (uw:World) (v9:Value) (N3 N4:Nat),L=#[true,true,true,true,true,false,true,true,false,false]→uw.cell? ⟨w.heap.size,0,none⟩=some (.string s1)∧uw.cell? ⟨w.heap.size,1,none⟩=some (.string s2)→Hid (Kept 6 48 wB (w.heap.size+1) uw)→Hid (uw.cell? ⟨1,0,none⟩=some (.int .i64 mx))→Hid (IsNum uw v9 a)→Hid (Loc uw N3 ⟨false,none,0,0,none,0,0⟩)→w.heap.size+1<N3→Hid (Loc uw N4 ⟨false,none,0,0,none,0,0⟩)→w.heap.size+1<N4→N3≠N4→F 3 L (Act.put (Act.put (Act.put A0 (some 3) (.pointer (some ⟨N3,0,none⟩))) (some 4) (.pointer (some ⟨N4,0,none⟩))) (some 9) v9) uw:=by
   intro L uw v9 N3 N4 hLL hS HK HM I1 Z3 hlo3 Z4 hlo4 ne34
   subst hLL
   rw [←hF.out,←hA.out]
   try simp only [Act.put,lt,ly,lu]
   refine wpAnyH_ready (rs:=[5]) (by kernel_rfl) (by simp) ?_
   refine AllReadyH.cons (o:=?o5z490) ?e5z490 ?k5z490 AllReadyH.nil
   case e5z490=>simp only [lg,lz,ls] <;> rfl
   case k5z490 =>
     intro K hK
     go_simp
     go_at_call 41
     refine (number_val HM.out eb.out).mono ?_
     rintro e u2 ⟨v2,rfl,hv2,hb2⟩
     refine hK.out _ _ ?_ (fun hHeld=>?_)
     · (try dsimp only)
       exact two_keep hS hb2
     clear hK K
     try simp only [Act.put,lt,ly,lu]
     rw [hF.out]
     exact st2_34.out _ u2 v9 v2 N3 N4 (by kernel_rfl) (two_keep hS hb2) (HK.out.call hb2) (cell_keepF HM.out hb2) (I1.out.keep hb2) hv2 (Z3.out.call hb2) hlo3 (Z4.out.call hb2) hlo4 ne34
 simp only [←hA.out,Act.put,lt,ly,lu] at st1_34
 replace st1_34:=hid st1_34
 have st1_3:∀ (L:Array Bool) (uw:World) (v9:Value) (N3:Nat),L=#[true,true,true,true,true,false,true,false,false,false]→uw.cell? ⟨w.heap.size,0,none⟩=some (.string s1)∧uw.cell? ⟨w.heap.size,1,none⟩=some (.string s2)→Hid (Kept 6 48 wB (w.heap.size+1) uw)→Hid (uw.cell? ⟨1,0,none⟩=some (.int .i64 mx))→Hid (IsNum uw v9 a)→Hid (Loc uw N3 ⟨false,none,0,0,none,0,0⟩)→w.heap.size+1<N3→F 4 L (Act.put (Act.put A0 (some 3) (.pointer (some ⟨N3,0,none⟩))) (some 9) v9) uw:=by
   intro L uw v9 N3 hLL hS HK HM I1 Z3 hlo3
   subst hLL
   rw [←hF.out,←hA.out]
   try simp only [Act.put,lt,ly,lu]
   refine wpAnyH_ready (rs:=[5,7]) (by kernel_rfl) (by simp) ?_
   refine AllReadyH.cons (o:=?o5z491) ?e5z491 ?k5z491 (AllReadyH.cons (o:=?o7z491) ?e7z491 ?k7z491 AllReadyH.nil)
   case e5z491=>simp only [lg,lz,ls] <;> rfl
   case e7z491=>simp only [lg,lz,ls] <;> rfl
   case k5z491 =>
     intro K hK
     go_simp
     go_at_call 41
     refine (number_val HM.out eb.out).mono ?_
     rintro e u2 ⟨v2,rfl,hv2,hb2⟩
     refine hK.out _ _ ?_ (fun hHeld=>?_)
     · (try dsimp only)
       exact two_keep hS hb2
     clear hK K
     try simp only [Act.put,lt,ly,lu]
     rw [hF.out]
     exact st2_3.out _ u2 v9 v2 N3 (by kernel_rfl) (two_keep hS hb2) (HK.out.call hb2) (cell_keepF HM.out hb2) (I1.out.keep hb2) hv2 (Z3.out.call hb2) hlo3
   case k7z491 =>
     intro K hK
     go_simp
     have hb2:=zero_below uw
     have Z2:=zero_loc uw
     refine hK.out _ _ ?_ (fun hHeld=>?_)
     · (try dsimp only)
       exact two_keep hS hb2
     clear hK K
     try simp only [Act.put,lt,ly,lu]
     rw [hF.out]
     exact st1_34.out _ _ v9 N3 uw.heap.size (by kernel_rfl) (two_keep hS hb2) (HK.out.call hb2) (cell_keepF HM.out hb2) (I1.out.keep hb2) (Z3.out.call hb2) hlo3 Z2 HK.out.block_lt (Nat.ne_of_lt Z3.out.lt)
 simp only [←hA.out,Act.put,lt,ly,lu] at st1_3
 replace st1_3:=hid st1_3
 have st1_4:∀ (L:Array Bool) (uw:World) (v9:Value) (N4:Nat),L=#[true,true,true,true,true,false,false,true,false,false]→uw.cell? ⟨w.heap.size,0,none⟩=some (.string s1)∧uw.cell? ⟨w.heap.size,1,none⟩=some (.string s2)→Hid (Kept 6 48 wB (w.heap.size+1) uw)→Hid (uw.cell? ⟨1,0,none⟩=some (.int .i64 mx))→Hid (IsNum uw v9 a)→Hid (Loc uw N4 ⟨false,none,0,0,none,0,0⟩)→w.heap.size+1<N4→F 4 L (Act.put (Act.put A0 (some 4) (.pointer (some ⟨N4,0,none⟩))) (some 9) v9) uw:=by
   intro L uw v9 N4 hLL hS HK HM I1 Z4 hlo4
   subst hLL
   rw [←hF.out,←hA.out]
   try simp only [Act.put,lt,ly,lu]
   refine wpAnyH_ready (rs:=[5,6]) (by kernel_rfl) (by simp) ?_
   refine AllReadyH.cons (o:=?o5z492) ?e5z492 ?k5z492 (AllReadyH.cons (o:=?o6z492) ?e6z492 ?k6z492 AllReadyH.nil)
   case e5z492=>simp only [lg,lz,ls] <;> rfl
   case e6z492=>simp only [lg,lz,ls] <;> rfl
   case k5z492 =>
     intro K hK
     go_simp
     go_at_call 41
     refine (number_val HM.out eb.out).mono ?_
     rintro e u2 ⟨v2,rfl,hv2,hb2⟩
     refine hK.out _ _ ?_ (fun hHeld=>?_)
     · (try dsimp only)
       exact two_keep hS hb2
     clear hK K
     try simp only [Act.put,lt,ly,lu]
     rw [hF.out]
     exact st2_4.out _ u2 v9 v2 N4 (by kernel_rfl) (two_keep hS hb2) (HK.out.call hb2) (cell_keepF HM.out hb2) (I1.out.keep hb2) hv2 (Z4.out.call hb2) hlo4
   case k6z492 =>
     intro K hK
     go_simp
     have hb2:=zero_below uw
     have Z2:=zero_loc uw
     refine hK.out _ _ ?_ (fun hHeld=>?_)
     · (try dsimp only)
       exact two_keep hS hb2
     clear hK K
     try simp only [Act.put,lt,ly,lu]
     rw [hF.out]
     exact st1_34.out _ _ v9 uw.heap.size N4 (by kernel_rfl) (two_keep hS hb2) (HK.out.call hb2) (cell_keepF HM.out hb2) (I1.out.keep hb2) Z2 HK.out.block_lt (Z4.out.call hb2) hlo4 (Nat.ne_of_gt Z4.out.lt)
 simp only [←hA.out,Act.put,lt,ly,lu] at st1_4
 replace st1_4:=hid st1_4
 have st1_n:∀ (L:Array Bool) (uw:World) (v9:Value),L=#[true,true,true,true,true,false,false,false,false,false]→uw.cell? ⟨w.heap.size,0,none⟩=some (.string s1)∧uw.cell? ⟨w.heap.size,1,none⟩=some (.string s2)→Hid (Kept 6 48 wB (w.heap.size+1) uw)→Hid (uw.cell? ⟨1,0,none⟩=some (.int .i64 mx))→Hid (IsNum uw v9 a)→F 5 L (Act.put A0 (some 9) v9) uw:=by
   intro L uw v9 hLL hS HK HM I1
   subst hLL
   rw [←hF.out,←hA.out]
   try simp only [Act.put,lt,ly,lu]
   refine wpAnyH_ready (rs:=[5,6,7]) (by kernel_rfl) (by simp) ?_
   refine AllReadyH.cons (o:=?o5z493) ?e5z493 ?k5z493 (AllReadyH.cons (o:=?o6z493) ?e6z493 ?k6z493 (AllReadyH.cons (o:=?o7z493) ?e7z493 ?k7z493 AllReadyH.nil))
   case e5z493=>simp only [lg,lz,ls] <;> rfl
   case e6z493=>simp only [lg,lz,ls] <;> rfl
   case e7z493=>simp only [lg,lz,ls] <;> rfl
   case k5z493 =>
     intro K hK
     go_simp
     go_at_call 41
     refine (number_val HM.out eb.out).mono ?_
     rintro e u2 ⟨v2,rfl,hv2,hb2⟩
     refine hK.out _ _ ?_ (fun hHeld=>?_)
     · (try dsimp only)
       exact two_keep hS hb2
     clear hK K
     try simp only [Act.put,lt,ly,lu]
     rw [hF.out]
     exact st2_n.out _ u2 v9 v2 (by kernel_rfl) (two_keep hS hb2) (HK.out.call hb2) (cell_keepF HM.out hb2) (I1.out.keep hb2) hv2
   case k6z493 =>
     intro K hK
     go_simp
     have hb2:=zero_below uw
     have Z2:=zero_loc uw
     refine hK.out _ _ ?_ (fun hHeld=>?_)
     · (try dsimp only)
       exact two_keep hS hb2
     clear hK K
     try simp only [Act.put,lt,ly,lu]
     rw [hF.out]
     exact st1_3.out _ _ v9 uw.heap.size (by kernel_rfl) (two_keep hS hb2) (HK.out.call hb2) (cell_keepF HM.out hb2) (I1.out.keep hb2) Z2 HK.out.block_lt
   case k7z493 =>
     intro K hK
     go_simp
     have hb2:=zero_below uw
     have Z2:=zero_loc uw
     refine hK.out _ _ ?_ (fun hHeld=>?_)
     · (try dsimp only)
       exact two_keep hS hb2
     clear hK K
     try simp only [Act.put,lt,ly,lu]
     rw [hF.out]
     exact st1_4.out _ _ v9 uw.heap.size (by kernel_rfl) (two_keep hS hb2) (HK.out.call hb2) (cell_keepF HM.out hb2) (I1.out.keep hb2) Z2 HK.out.block_lt
 simp only [←hA.out,Act.put,lt,ly,lu] at st1_n
 replace st1_n:=hid st1_n
 have st0_34:∀ (L:Array Bool) (uw:World) (N3 N4:Nat),L=#[true,true,false,true,true,false,true,true,false,false]→uw.cell? ⟨w.heap.size,0,none⟩=some (.string s1)∧uw.cell? ⟨w.heap.size,1,none⟩=some (.string s2)→Hid (Kept 6 48 wB (w.heap.size+1) uw)→Hid (uw.cell? ⟨1,0,none⟩=some (.int .i64 mx))→Hid (Loc uw N3 ⟨false,none,0,0,none,0,0⟩)→w.heap.size+1<N3→Hid (Loc uw N4 ⟨false,none,0,0,none,0,0⟩)→w.heap.size+1<N4→N3≠N4→F 4 L (Act.put (Act.put A0 (some 3) (.pointer (some ⟨N3,0,none⟩))) (some 4) (.pointer (some ⟨N4,0,none⟩))) uw:=by
   intro L uw N3 N4 hLL hS HK HM Z3 hlo3 Z4 hlo4 ne34
   subst hLL
   rw [←hF.out,←hA.out]
   try simp only [Act.put,lt,ly,lu]
   refine wpAnyH_ready (rs:=[2]) (by kernel_rfl) (by simp) ?_
   refine AllReadyH.cons (o:=?o2z494) ?e2z494 ?k2z494 AllReadyH.nil
   case e2z494=>simp only [lg,lz,ls] <;> rfl
   case k2z494 =>
     intro K hK
     go_simp
     go_at_call 41
     refine (number_val HM.out ea.out).mono ?_
     rintro e u2 ⟨v2,rfl,hv2,hb2⟩
     refine hK.out _ _ ?_ (fun hHeld=>?_)
     · (try dsimp only)
       exact two_keep hS hb2
     clear hK K
     try simp only [Act.put,lt,ly,lu]
     rw [hF.out]
     exact st1_34.out _ u2 v2 N3 N4 (by kernel_rfl) (two_keep hS hb2) (HK.out.call hb2) (cell_keepF HM.out hb2) hv2 (Z3.out.call hb2) hlo3 (Z4.out.call hb2) hlo4 ne34
 simp only [←hA.out,Act.put,lt,ly,lu] at st0_34
 replace st0_34:=hid st0_34
 have st0_3:∀ (L:Array Bool) (uw:World) (N3:Nat),L=#[true,true,false,true,true,false,true,false,false,false]→uw.cell? ⟨w.heap.size,0,none⟩=some (.string s1)∧uw.cell? ⟨w.heap.size,1,none⟩=some (.string s2)→Hid (Kept 6 48 wB (w.heap.size+1) uw)→Hid (uw.cell? ⟨1,0,none⟩=some (.int .i64 mx))→Hid (Loc uw N3 ⟨false,none,0,0,none,0,0⟩)→w.heap.size+1<N3→F 5 L (Act.put A0 (some 3) (.pointer (some ⟨N3,0,none⟩))) uw:=by
   intro L uw N3 hLL hS HK HM Z3 hlo3
   subst hLL
   rw [←hF.out,←hA.out]
   try simp only [Act.put,lt,ly,lu]
   refine wpAnyH_ready (rs:=[2,7]) (by kernel_rfl) (by simp) ?_
   refine AllReadyH.cons (o:=?o2z495) ?e2z495 ?k2z495 (AllReadyH.cons (o:=?o7z495) ?e7z495 ?k7z495 AllReadyH.nil)
   case e2z495=>simp only [lg,lz,ls] <;> rfl
   case e7z495=>simp only [lg,lz,ls] <;> rfl
   case k2z495 =>
     intro K hK
     go_simp
     go_at_call 41
     refine (number_val HM.out ea.out).mono ?_
     rintro e u2 ⟨v2,rfl,hv2,hb2⟩
     refine hK.out _ _ ?_ (fun hHeld=>?_)
     · (try dsimp only)
       exact two_keep hS hb2
     clear hK K
     try simp only [Act.put,lt,ly,lu]
     rw [hF.out]
     exact st1_3.out _ u2 v2 N3 (by kernel_rfl) (two_keep hS hb2) (HK.out.call hb2) (cell_keepF HM.out hb2) hv2 (Z3.out.call hb2) hlo3
   case k7z495 =>
     intro K hK
     go_simp
     have hb2:=zero_below uw
     have Z2:=zero_loc uw
     refine hK.out _ _ ?_ (fun hHeld=>?_)
     · (try dsimp only)
       exact two_keep hS hb2
     clear hK K
     try simp only [Act.put,lt,ly,lu]
     rw [hF.out]
     exact st0_34.out _ _ N3 uw.heap.size (by kernel_rfl) (two_keep hS hb2) (HK.out.call hb2) (cell_keepF HM.out hb2) (Z3.out.call hb2) hlo3 Z2 HK.out.block_lt (Nat.ne_of_lt Z3.out.lt)
 simp only [←hA.out,Act.put,lt,ly,lu] at st0_3
 replace st0_3:=hid st0_3
 have st0_4:∀ (L:Array Bool) (uw:World) (N4:Nat),L=#[true,true,false,true,true,false,false,true,false,false]→uw.cell? ⟨w.heap.size,0,none⟩=some (.string s1)∧uw.cell? ⟨w.heap.size,1,none⟩=some (.string s2)→Hid (Kept 6 48 wB (w.heap.size+1) uw)→Hid (uw.cell? ⟨1,0,none⟩=some (.int .i64 mx))→Hid (Loc uw N4 ⟨false,none,0,0,none,0,0⟩)→w.heap.size+1<N4→F 5 L (Act.put A0 (some 4) (.pointer (some ⟨N4,0,none⟩))) uw:=by
   intro L uw N4 hLL hS HK HM Z4 hlo4
   subst hLL
   rw [←hF.out,←hA.out]
   try simp only [Act.put,lt,ly,lu]
   refine wpAnyH_ready (rs:=[2,6]) (by kernel_rfl) (by simp) ?_
   refine AllReadyH.cons (o:=?o2z496) ?e2z496 ?k2z496 (AllReadyH.cons (o:=?o6z496) ?e6z496 ?k6z496 AllReadyH.nil)
   case e2z496=>simp only [lg,lz,ls] <;> rfl
   case e6z496=>simp only [lg,lz,ls] <;> rfl
   case k2z496 =>
     intro K hK
     go_simp
     go_at_call 41
     refine (number_val HM.out ea.out).mono ?_
     rintro e u2 ⟨v2,rfl,hv2,hb2⟩
     refine hK.out _ _ ?_ (fun hHeld=>?_)
     · (try dsimp only)
       exact two_keep hS hb2
     clear hK K
     try simp only [Act.put,lt,ly,lu]
     rw [hF.out]
     exact st1_4.out _ u2 v2 N4 (by kernel_rfl) (two_keep hS hb2) (HK.out.call hb2) (cell_keepF HM.out hb2) hv2 (Z4.out.call hb2) hlo4
   case k6z496 =>
     intro K hK
     go_simp
     have hb2:=zero_below uw
     have Z2:=zero_loc uw
     refine hK.out _ _ ?_ (fun hHeld=>?_)
     · (try dsimp only)
       exact two_keep hS hb2
     clear hK K
     try simp only [Act.put,lt,ly,lu]
     rw [hF.out]
     exact st0_34.out _ _ uw.heap.size N4 (by kernel_rfl) (two_keep hS hb2) (HK.out.call hb2) (cell_keepF HM.out hb2) Z2 HK.out.block_lt (Z4.out.call hb2) hlo4 (Nat.ne_of_gt Z4.out.lt)
 simp only [←hA.out,Act.put,lt,ly,lu] at st0_4
 replace st0_4:=hid st0_4
 have st0_n:∀ (L:Array Bool) (uw:World),L=#[true,true,false,true,true,false,false,false,false,false]→uw.cell? ⟨w.heap.size,0,none⟩=some (.string s1)∧uw.cell? ⟨w.heap.size,1,none⟩=some (.string s2)→Hid (Kept 6 48 wB (w.heap.size+1) uw)→Hid (uw.cell? ⟨1,0,none⟩=some (.int .i64 mx))→F 6 L A0 uw:=by
   intro L uw  hLL hS HK HM
   subst hLL
   rw [←hF.out,←hA.out]
   try simp only [Act.put,lt,ly,lu]
   refine wpAnyH_ready (rs:=[2,6,7]) (by kernel_rfl) (by simp) ?_
   refine AllReadyH.cons (o:=?o2z497) ?e2z497 ?k2z497 (AllReadyH.cons (o:=?o6z497) ?e6z497 ?k6z497 (AllReadyH.cons (o:=?o7z497) ?e7z497 ?k7z497 AllReadyH.nil))
   case e2z497=>simp only [lg,lz,ls] <;> rfl
   case e6z497=>simp only [lg,lz,ls] <;> rfl
   case e7z497=>simp only [lg,lz,ls] <;> rfl
   case k2z497 =>
     intro K hK
     go_simp
     go_at_call 41
     refine (number_val HM.out ea.out).mono ?_
     rintro e u2 ⟨v2,rfl,hv2,hb2⟩
     refine hK.out _ _ ?_ (fun hHeld=>?_)
     · (try dsimp only)
       exact two_keep hS hb2
     clear hK K
     try simp only [Act.put,lt,ly,lu]
     rw [hF.out]
     exact st1_n.out _ u2 v2 (by kernel_rfl) (two_keep hS hb2) (HK.out.call hb2) (cell_keepF HM.out hb2) hv2
   case k6z497 =>
     intro K hK
     go_simp
     have hb2:=zero_below uw
     have Z2:=zero_loc uw
     refine hK.out _ _ ?_ (fun hHeld=>?_)
     · (try dsimp only)
       exact two_keep hS hb2
     clear hK K
     try simp only [Act.put,lt,ly,lu]
     rw [hF.out]
     exact st0_3.out _ _ uw.heap.size (by kernel_rfl) (two_keep hS hb2) (HK.out.call hb2) (cell_keepF HM.out hb2) Z2 HK.out.block_lt
   case k7z497 =>
     intro K hK
     go_simp
     have hb2:=zero_below uw
     have Z2:=zero_loc uw
     refine hK.out _ _ ?_ (fun hHeld=>?_)
     · (try dsimp only)
       exact two_keep hS hb2
     clear hK K
     try simp only [Act.put,lt,ly,lu]
     rw [hF.out]
     exact st0_4.out _ _ uw.heap.size (by kernel_rfl) (two_keep hS hb2) (HK.out.call hb2) (cell_keepF HM.out hb2) Z2 HK.out.block_lt
 simp only [←hA.out,Act.put,lt,ly,lu] at st0_n
 replace st0_n:=hid st0_n
 have HA:=hA.out
 subst HA
 exact st0_n.out _ _ (by kernel_rfl) hS0 HK0 HM0
end Go.Proofs.YtlcimajjnfbidaaGreatDoor
