/-
  Contracts of the functions that the law calls, for every input (Pk Pl Pm).
-/
import Derived.Test.YtbigkkjnhcpgiaaGreatDoorQ00
import Derived.Test.YtbigkkjnhcpgiaaGreatDoorQ41
import Derived.OwnWalk
import Derived.Test.YtbigkkjnhcpgiaaGreatDoorQ39
set_option linter.all false
set_option maxRecDepth 100000
set_option maxHeartbeats 40000000
namespace Go.Proofs.YtbigkkjnhcpgiaaGreatDoor
open Lib (hid)
open Go.RowKit
open Vx
open List renaming getElem?_toArray → lg, getElem?_cons_zero → lz, getElem?_cons_succ → ls, setIfInBounds_toArray → lt, set_cons_zero → ly, set_cons_succ → lu
open Rf (A7' AG' Ag' AI' AC)
theorem FI {w:World} {s1 s2:Bool} {A1 A2 A3 A4:Option Addr} {n1 c1 n2 c2 n3 c3 n4 c4:Nat} {p q:Rat} (h1:Ac' w (.agg #[.bool s1,.slice A1 n1 c1,.slice A2 n2 c2]) p) (h2:Ac' w (.agg #[.bool s2,.slice A3 n3 c3,.slice A4 n4 c4]) q) :
   Ao' w (.agg #[.bool s1,.slice A1 n1 c1,.slice A2 n2 c2,.bool s2,.slice A3 n3 c3,.slice A4 n4 c4]) p q:=by
 obtain ⟨u1,u2,e1,h3,h4⟩:=h1
 obtain ⟨u3,u4,e2,h5,h6⟩:=h2
 simp only [Value.agg.injEq,Array.mk.injEq,List.cons.injEq,Value.bool.injEq,and_true] at e1 e2
 obtain ⟨rfl,rfl,rfl⟩:=e1
 obtain ⟨rfl,rfl,rfl⟩:=e2
 exact ⟨_,_,_,_,rfl,h3,h4,h5,h6⟩
def Bn' (W:World) (Bp:Nat) (a b:Rat) (n i:Nat):Prop:=∀ j,j<i→∃ s1 A1 n1 c1 A2 n2 c2 s2 A3 n3 c3 A4 n4 c4,W.cell? ⟨Bp,j*6,none⟩=some (.bool s1)∧W.cell? ⟨Bp,j*6+1,none⟩=some (.slice A1 n1 c1)∧W.cell? ⟨Bp,j*6+2,none⟩=some (.slice A2 n2 c2) ∧
  W.cell? ⟨Bp,j*6+3,none⟩=some (.bool s2)∧W.cell? ⟨Bp,j*6+4,none⟩=some (.slice A3 n3 c3)∧W.cell? ⟨Bp,j*6+5,none⟩=some (.slice A4 n4 c4)∧Ao' W (.agg #[.bool s1,.slice A1 n1 c1,.slice A2 n2 c2,.bool s2,.slice A3 n3 c3,.slice A4 n4 c4]) (Az a b n j) (Az a b n (j+1))
theorem Bn'.keep {W V:World} {Bp:Nat} {a b:Rat} {n i:Nat} (h:Bn' W Bp a b n i) (hb:Below W.heap.size W V):Bn' V Bp a b n i:=by
 intro j hj
 obtain ⟨s1,A1,n1,c1,A2,n2,c2,s2,A3,n3,c3,A4,n4,c4,z0,z1,z2,z3,z4,z5,hx⟩:=h j hj
 have hl:=bL W _ z0
 exact ⟨_,_,_,_,_,_,_,_,_,_,_,_,_,_,(hb.cell (p:=⟨Bp,j*6,none⟩) hl).trans z0,(hb.cell (p:=⟨Bp,j*6+1,none⟩) hl).trans z1,(hb.cell (p:=⟨Bp,j*6+2,none⟩) hl).trans z2,(hb.cell (p:=⟨Bp,j*6+3,none⟩) hl).trans z3,(hb.cell (p:=⟨Bp,j*6+4,none⟩) hl).trans z4,(hb.cell (p:=⟨Bp,j*6+5,none⟩) hl).trans z5,hx.keep hb⟩
theorem EE' {w:World} {m:Int} {bb bw i:Nat} {a b d x:Rat} {P1 P2 P3 P4 P5 P6:Option Addr} {r1 r2 r3 r4 r5 r6:Nat} (hm:((i:Nat):Int)=m) (hx:a+d*(((i:Nat):Int):Rat)=x) (hbx:w.heap[bb]?=some (.cells #[.bool (decide (a.num<0)),.slice P1 (len a.num.natAbs) r1,.slice P2 (len (below a.den)) r2,.bool (decide (b.num<0)),.slice P3 (len b.num.natAbs) r3,.slice P4 (len (below b.den)) r4] 35 (0,0))) (hva:Ac' w (.agg #[.bool (decide (a.num<0)),.slice P1 (len a.num.natAbs) r1,.slice P2 (len (below a.den)) r2]) a) (hwd:w.heap[bw]?=some (.cells #[.bool (decide (d.num<0)),.slice P5 (len d.num.natAbs) r5,.slice P6 (len (below d.den)) r6] 33 (0,0))) (hvw:Ac' w (.agg #[.bool (decide (d.num<0)),.slice P5 (len d.num.natAbs) r5,.slice P6 (len (below d.den)) r6]) d) (hi:i≤1000) (sa:Aa' a≤1000000) (sd:Aa' d≤1000000) :
   Calls Tryz.prog 28 #[.int .i64 m,.pointer (some ⟨bb,0,none⟩),.pointer (some ⟨bw,0,none⟩)] w (Ar' w x):=by
 rw [←hm]
 exact Gx' hx hbx hva hwd hvw hi sa sd
theorem Hu' {w:World} {vx vy:Value} {x y q:Rat} (hq:x / y=q) (hx:Ac' w vx x) (hy:Ac' w vy y) (hs:Aa' x≤34359738368) (ht:Aa' y≤34359738368):Calls Tryz.prog 27 #[vx,vy] w (Ar' w q):=by rw [←hq];exact CI' hx hy hs ht
theorem I9':(Tryz.prog.info? 35).map (fun i=>(i.zero,i.size,i.bytes))=some (some (.agg #[.bool false,.slice none 0 0,.slice none 0 0,.bool false,.slice none 0 0,.slice none 0 0]),6,112):=by kernel_rfl
theorem Ja {n:Nat}:∀ (i:Nat) (k:IntKind) (m:Int),(madeCells (#[.bool false,.slice none 0 0,.slice none 0 0,.bool false,.slice none 0 0,.slice none 0 0]:Array Value) n)[i]?≠some (.int k m):=by
 intro i k m h
 have hm:=Array.mem_of_getElem? h
 simp only [madeCells,Array.mem_map,Array.mem_range] at hm
 obtain ⟨j,-,hj⟩:=hm
 have hlt:j%6<6:=Nat.mod_lt _ (by omega)
 generalize j%6=r at hj hlt
 match r,hlt with
 | 0,_=>simp at hj
 | 1,_=>simp at hj
 | 2,_=>simp at hj
 | 3,_=>simp at hj
 | 4,_=>simp at hj
 | 5,_=>simp at hj
structure PartsTo (w:World) (Bp b0 bw n k:Nat) (a b d:Rat) (P1 P2 P3 P4 P5 P6:Option Addr) (r1 r2 r3 r4 r5 r6:Nat) (W:World):Prop where
  row:∃ cs,W.heap[Bp]?=some (.cells cs 35 (0,0))∧cs.size=n*6∧∀ (i:Nat) (k:IntKind) (m:Int),cs[i]?≠some (.int k m)
  pts:Bn' W Bp a b n k
  bx:W.heap[b0]?=some (.cells #[.bool (decide (a.num<0)),.slice P1 (len a.num.natAbs) r1,.slice P2 (len (below a.den)) r2,.bool (decide (b.num<0)),.slice P3 (len b.num.natAbs) r3,.slice P4 (len (below b.den)) r4] 35 (0,0))
  wd:W.heap[bw]?=some (.cells #[.bool (decide (d.num<0)),.slice P5 (len d.num.natAbs) r5,.slice P6 (len (below d.den)) r6] 33 (0,0))
  va:Ac' W (.agg #[.bool (decide (a.num<0)),.slice P1 (len a.num.natAbs) r1,.slice P2 (len (below a.den)) r2]) a
  vw:Ac' W (.agg #[.bool (decide (d.num<0)),.slice P5 (len d.num.natAbs) r5,.slice P6 (len (below d.den)) r6]) d
  be:Below w.heap.size w W
theorem CD {w:World} {vb:Value} {a b:Rat} {n:Nat} (hv:Ao' w vb a b) (hn1:1≤n) (hn2:n≤256) (sa:Aa' a≤100000) (sb:Aa' b≤100000) :
   Calls Tryz.prog 7 #[vb,.int .i64 ((n:Nat):Int)] w (fun e w'=>∃ Bp,e=.returned (.tuple #[.slice (some ⟨Bp,0,none⟩) n n,.int .i64 0])∧Bn' w' Bp a b n n∧Below w.heap.size w w'):=by
 obtain ⟨c,ec⟩:=eY (b - a)
 obtain ⟨k,ek⟩:=eY ((((n:Nat):Int):Rat))
 obtain ⟨d,ed⟩:=eY (c / k)
 have sk:Aa' k≤2:=by rw [←ek];exact Bn (by omega)
 have sc:Aa' c≤200001:=by rw [←ec];have:=CN b a;omega
 have sd:Aa' d≤1000000:=by rw [←ed];have:=Cc' c k;omega
 have hcut:∀ i:Nat,Az a b n i=a+d*(((i:Nat):Int):Rat):=by
   intro i
   unfold Az
   rw [←ed,←ec,←ek,Rat.intCast_natCast,Rat.intCast_natCast]
 have sa9:Aa' a≤1000000:=by omega
 have sa5:Aa' a≤536870912:=by omega
 have sb5:Aa' b≤536870912:=by omega
 have sc5:Aa' c≤34359738368:=by omega
 have sk5:Aa' k≤34359738368:=by omega
 have hi1:(-9223372036854775808:Int)≤((n:Nat):Int):=by omega
 have hi2:((n:Nat):Int)≤9223372036854775807:=by omega
 have d1:decide (((n:Nat):Int)<1)=false:=dF_ (by omega)
 have d2:decide (((n:Nat):Int)>256)=false:=dF_ (by omega)
 have d1':¬ ((n:Nat):Int)<1:=by omega
 have d2':¬ ((n:Nat):Int)>256:=by omega
 clear sa sb sc sk
 replace ec:=hid ec
 replace ek:=hid ek
 replace ed:=hid ed
 replace hcut:=hid hcut
 obtain ⟨P1,r1,P2,r2,P3,r3,P4,r4,rfl,hva,-⟩:=id hv.opened
 replace hv:=hid hv
 replace hva:=hid hva
 obtain ⟨w1,hw1⟩:=eX (w.alloc (.cells #[.bool (decide (a.num<0)),.slice P1 (len a.num.natAbs) r1,.slice P2 (len (below a.den)) r2,.bool (decide (b.num<0)),.slice P3 (len b.num.natAbs) r3,.slice P4 (len (below b.den)) r4] 35))
 have b1:=hid (AC hw1)
 have L1:=hid (AI' hw1)
 obtain ⟨z0,z1,z2,z3,z4,z5⟩:=Ae' L1.out
 go_enter Tryz.func7,Tryz.ntmps7
 go_upto_region 1 with fail
 rw [←hw1]
 clear hw1
 go_upto_region 3 with fail
 have HX:=hid (Hu ec.out (hv.out.keep b1.out) sa5 sb5)
 go_wp2_with fail
 refine (HX.out).mono ?_
 rintro e w2 ⟨v2,rfl,hv2,b2⟩
 obtain ⟨C1,j1,C2,j2,rfl,-,-⟩:=id hv2.opened
 replace hv2:=hid hv2
 replace b2:=hid b2
 clear HX z0 z1 z2 z3 z4 z5
 have HX:=hid (BJ (w:=w2) hi1 hi2 ek.out)
 go_wp2_with fail
 refine (HX.out).mono ?_
 rintro e w3 ⟨v3,rfl,hv3,b3⟩
 obtain ⟨C3,j3,C4,j4,rfl,-,-⟩:=id hv3.opened
 replace hv3:=hid hv3
 replace b3:=hid b3
 clear HX
 have HX:=hid (Hu' ed.out (hv2.out.keep b3.out) hv3.out sc5 sk5)
 go_wp2_with fail
 refine (HX.out).mono ?_
 rintro e w4 ⟨v4,rfl,hv4,b4⟩
 obtain ⟨C5,j5,C6,j6,rfl,-,-⟩:=id hv4.opened
 replace hv4:=hid hv4
 replace b4:=hid b4
 clear HX
 go_upto_region 5 with fail
 obtain ⟨w5,hw5⟩:=eX (w4.alloc (.cells #[.bool (decide (d.num<0)),.slice C5 (Vx.len d.num.natAbs) j5,.slice C6 (Vx.len (below d.den)) j6] 33))
 have b5:=hid (AC hw5)
 have L5:=hid (AI' hw5)
 rw [←hw5]
 clear hw5
 have y0_5:=hid (bS (bS (bS (bS b1.out b2.out) b3.out) b4.out) b5.out)
 have y1_5:=hid (bS (bS (bS b2.out b3.out) b4.out) b5.out)
 obtain ⟨b0,hb0⟩:=eY w.heap.size
 obtain ⟨bw,hbw⟩:=eY w4.heap.size
 have hBB:=hid y0_5.out
 have R1:=hid (Ad' L1.out y1_5.out)
 have R2':=L5.out
 rw [hbw] at R2'
 have R2:=hid R2'
 clear R2'
 have V1:=hid (hva.out.keep y0_5.out)
 have V2:=hid (hv4.out.keep b5.out)
 have h01:b0<w5.heap.size:=by rw [←hb0];exact at_lt R1.out
 have h02:bw<w5.heap.size:=at_lt R2.out
 rw [hbw]
 clear hbw
 obtain ⟨i0,hi0,hz0,hz1,hz2⟩:=info_parts I9'
 replace hi0:=hid hi0
 replace hz0:=hid hz0
 replace hz1:=hid hz1
 replace hz2:=hid hz2
 go_wp2_with (at_make;refine wpList_make_full _ rfl _ _ _ rfl w5.heap.size 35 i0 _ 6 Tryz.underlying44 hi0.out hz0.out hz1.out _ _ _ _ n rfl rfl rfl rfl (by rw [hz2.out];omega) (by unfold maxLen;omega) (nL _) ?_;intro v1 hown hgr)
 obtain ⟨Bp,hBp⟩:=eY w5.heap.size
 have hB9:Below w5.heap.size w5 v1:=⟨hgr.os,hgr.tape,hgr.output,hgr.size,fun k hk=>hgr.block k hk (by simp)⟩
 have HR:Hid (PartsTo w Bp b0 bw n 0 a b d P1 P2 P3 P4 C5 C6 r1 r2 r3 r4 j5 j6 v1):=by
   obtain ⟨hl,h0 | ⟨g,cap,cur,hv9,-,hg,-,-,hcs,htk⟩⟩:=hown
   · have:=h0.2;omega
   · injection hv9 with e1 e2 e3
     injection e1 with e1
     injection e1 with e1
     subst e3
     rw [←hBp,e1]
     refine hid ⟨⟨cur,hg,hcs,fun i k m h=>?_⟩,fun j hj=>absurd hj (Nat.not_lt_zero _),by rw [←hb0];exact Ad' R1.out hB9,Ad' R2.out hB9,V1.out.keep hB9,V2.out.keep hB9,chain hBB.out hB9⟩
     have hi9:i<n*6:=by rw [←hcs];exact (gE.1 h).1
     rw [←Array.getElem?_toList] at h
     have h2:(cur.toList.take (n*6))[i]?=some (.int k m):=by rw [List.getElem?_take_of_lt hi9];exact h
     rw [htk,Array.getElem?_toList] at h2
     exact Ja i k m h2
 have hne1:b0<Bp:=by rw [←hBp];exact h01
 have hne2:bw<Bp:=by rw [←hBp];exact h02
 have hne3:w.heap.size≤Bp:=by omega
 rw [hBp]
 clear hown hgr hB9 hBp R1 R2 V1 V2 hBB b1 b2 b3 b4 b5 L1 hv hva hv4 hv2 hv3 L5 h01 h02 hi0 hz0 hz1 hz2
 try rw [hb0]
 go_wp2_with fail
 go_loopw [26] (fun iv wr=>∃ k:Nat,k≤n∧iv=.int .i64 ((k:Nat):Int)∧Hid (PartsTo w Bp b0 bw n k a b d P1 P2 P3 P4 C5 C6 r1 r2 r3 r4 j5 j6 wr)) (fun iv _=>n - (intOf iv).toNat)
 case atStart=>exact ⟨0,Nat.zero_le _,rfl,HR⟩
 case round =>
   obtain ⟨j,hj,rfl,hrel⟩:=hrel
   clear HR
   rcases Nat.lt_or_ge j n with hjn | hjn
   · have hin:decide (j<n)=true:=dT_ hjn
     obtain ⟨x,ex⟩:=eY (Az a b n j)
     obtain ⟨y,ey⟩:=eY (Az a b n (j+1))
     have e1:=hid ((hcut.out j).symm.trans ex)
     have e2:=hid ((hcut.out (j+1)).symm.trans ey)
     replace ex:=hid ex
     replace ey:=hid ey
     have hj1:Hid (((j+1:Nat):Int)=((j:Nat):Int)+1):=hid (by omega)
     have hj2:Hid (j≤1000):=hid (by omega)
     have hj3:Hid (j+1≤1000):=hid (by omega)
     have hT:=hrel
     have HX:=hid (EE' rfl e1.out hT.out.bx hT.out.va hT.out.wd hT.out.vw hj2.out sa9 sd)
     go_wp2_with fail
     refine (HX.out).mono ?_
     rintro e w91 ⟨v91,rfl,hv91,b91⟩
     obtain ⟨C1,j1,C2,j2,rfl,-,-⟩:=id hv91.opened
     replace hv91:=hid hv91
     replace b91:=hid b91
     clear HX
     have HX:=hid (EE' hj1.out e2.out (Ad' hT.out.bx b91.out) (hT.out.va.keep b91.out) (Ad' hT.out.wd b91.out) (hT.out.vw.keep b91.out) hj3.out sa9 sd)
     go_wp2_with fail
     refine (HX.out).mono ?_
     rintro e w92 ⟨v92,rfl,hv92,b92⟩
     obtain ⟨C3,j3,C4,j4,rfl,-,-⟩:=id hv92.opened
     replace hv92:=hid hv92
     replace b92:=hid b92
     clear HX
     have kb:=hid (bS b91.out b92.out)
     obtain ⟨cs,hrow,hcs,hni⟩:=hT.out.row
     have hr2:=Ad' hrow kb.out
     obtain ⟨u,hu⟩:=eY (j*6)
     have hu5:u+5<cs.size:=by omega
     obtain ⟨q0,eq0⟩:∃ z,cs[u+0]?=some z:=⟨cs[u+0],by simp⟩
     have f0:=fR w92 Bp (u+0) _ _ hr2
     have k0:w92.cell? ⟨Bp,u+0,none⟩=some q0:=(cR _ _ _ _ _ _ hr2).trans eq0
     obtain ⟨q1,eq1⟩:∃ z,cs[u+1]?=some z:=⟨cs[u+1],by simp⟩
     have f1:=fR w92 Bp (u+1) _ _ hr2
     have k1:w92.cell? ⟨Bp,u+1,none⟩=some q1:=(cR _ _ _ _ _ _ hr2).trans eq1
     obtain ⟨q2,eq2⟩:∃ z,cs[u+2]?=some z:=⟨cs[u+2],by simp⟩
     have f2:=fR w92 Bp (u+2) _ _ hr2
     have k2:w92.cell? ⟨Bp,u+2,none⟩=some q2:=(cR _ _ _ _ _ _ hr2).trans eq2
     obtain ⟨q3,eq3⟩:∃ z,cs[u+3]?=some z:=⟨cs[u+3],by simp⟩
     have f3:=fR w92 Bp (u+3) _ _ hr2
     have k3:w92.cell? ⟨Bp,u+3,none⟩=some q3:=(cR _ _ _ _ _ _ hr2).trans eq3
     obtain ⟨q4,eq4⟩:∃ z,cs[u+4]?=some z:=⟨cs[u+4],by simp⟩
     have f4:=fR w92 Bp (u+4) _ _ hr2
     have k4:w92.cell? ⟨Bp,u+4,none⟩=some q4:=(cR _ _ _ _ _ _ hr2).trans eq4
     obtain ⟨q5,eq5⟩:∃ z,cs[u+5]?=some z:=⟨cs[u+5],by simp⟩
     have f5:=fR w92 Bp (u+5) _ _ hr2
     have k5:w92.cell? ⟨Bp,u+5,none⟩=some q5:=(cR _ _ _ _ _ _ hr2).trans eq5
     rw [Nat.add_zero] at k0 f0
     obtain ⟨ue,hw⟩:=eX (((((((w92.setCell ⟨Bp,u,none⟩ (.bool (decide (x.num<0)))).setCell ⟨Bp,u+1,none⟩ (.slice C1 (len x.num.natAbs) j1)).setCell ⟨Bp,u+2,none⟩ (.slice C2 (len (below x.den)) j2)).setCell ⟨Bp,u+3,none⟩ (.bool (decide (y.num<0)))).setCell ⟨Bp,u+4,none⟩ (.slice C3 (len y.num.natAbs) j3)).setCell ⟨Bp,u+5,none⟩ (.slice C4 (len (below y.den)) j4)))
     obtain ⟨cs',hr3,hsz,hold,⟨n0,n1,n2,n3,n4,n5⟩,OT,hs9,BL⟩:=Ht' hr2 hu5 hw
     have hle:w92.heap.size≤ue.heap.size:=Nat.le_of_eq hs9.symm
     have FIN:Hid (PartsTo w Bp b0 bw n (j+1) a b d P1 P2 P3 P4 C5 C6 r1 r2 r3 r4 j5 j6 ue):=by
       refine hid ⟨⟨cs',hr3,by rw [hsz,hcs],fun i k m h=>?_⟩,fun t ht=>?_,OT _ _ (by omega) (Ad' hT.out.bx kb.out),OT _ _ (by omega) (Ad' hT.out.wd kb.out),D8 hle hr2 hni OT (hT.out.va.keep kb.out),D8 hle hr2 hni OT (hT.out.vw.keep kb.out),BL _ _ hne3 (chain hT.out.be kb.out)⟩
       · rcases Decidable.em (i<u∨u+5<i) with h9 | h9
         · rw [hold i h9] at h;exact hni i k m h
         · have h8:i=u∨i=u+1∨i=u+2∨i=u+3∨i=u+4∨i=u+5:=by omega
           rcases h8 with rfl | rfl | rfl | rfl | rfl | rfl
           · rw [n0] at h;simp at h
           · rw [n1] at h;simp at h
           · rw [n2] at h;simp at h
           · rw [n3] at h;simp at h
           · rw [n4] at h;simp at h
           · rw [n5] at h;simp at h
       · rcases Nat.lt_or_ge t j with h9 | h9
         · obtain ⟨s1,A1,m1,c1,A2,m2,c2,s2,A3,m3,c3,A4,m4,c4,z0,z1,z2,z3,z4,z5,hx⟩:=(hT.out.pts.keep kb.out) t h9
           rw [cR _ _ _ _ _ _ hr2] at z0 z1 z2 z3 z4 z5
           exact ⟨_,_,_,_,_,_,_,_,_,_,_,_,_,_,(cR _ _ _ _ _ _ hr3).trans ((hold _ (by omega)).trans z0),(cR _ _ _ _ _ _ hr3).trans ((hold _ (by omega)).trans z1),(cR _ _ _ _ _ _ hr3).trans ((hold _ (by omega)).trans z2),(cR _ _ _ _ _ _ hr3).trans ((hold _ (by omega)).trans z3),(cR _ _ _ _ _ _ hr3).trans ((hold _ (by omega)).trans z4),(cR _ _ _ _ _ _ hr3).trans ((hold _ (by omega)).trans z5),D8' hle hr2 hni OT hx⟩
         · obtain rfl:t=j:=by omega
           rw [hu]
           refine ⟨_,_,_,_,_,_,_,_,_,_,_,_,_,_,(cR _ _ _ _ _ _ hr3).trans n0,(cR _ _ _ _ _ _ hr3).trans n1,(cR _ _ _ _ _ _ hr3).trans n2,(cR _ _ _ _ _ _ hr3).trans n3,(cR _ _ _ _ _ _ hr3).trans n4,(cR _ _ _ _ _ _ hr3).trans n5,?_⟩
           rw [ex.out,ey.out]
           exact D8' hle hr2 hni OT (FI (hv91.out.keep b92.out) hv92.out)
     clear hr2 hr3 hsz hold n0 n1 n2 n3 n4 n5 OT hs9 BL hle hrow hni hT hrel kb b91 b92 hv91 hv92 eq0 eq1 eq2 eq3 eq4 eq5 hcs hu5
     replace hw:=hid hw
     go_wp2_with fail
     rw [←hw.out]
     clear hw k0 k1 k2 k3 k4 k5 f0 f1 f2 f3 f4 f5
     go_roundw
     case rel=>exact ⟨j+1,hjn,by go_num,FIN⟩
     case measure=>simp [intOf];omega
   · obtain rfl:j=n:=Nat.le_antisymm hj hjn
     have hin:decide (j<j)=false:=dF_ (Nat.lt_irrefl _)
     have HP:=hid hrel.out.pts
     have HB:=hid hrel.out.be
     clear hrel
     go_wp2_with fail
     go_ret2
     exact ⟨Bp,rfl,HP.out,HB.out⟩
open Rf (A7' AG' Ag' AI' AC AU Ci' CP' Cg')
theorem Dp {p:Rat × Rat} {M:Nat} (h3:Aa' p.1≤M) (h4:Aa' p.2≤M):∀ (l:List Rat),(∀ y∈l,Aa' y≤M)→Aa' (AV p l).1≤3+l.length*(M+M+1)∧Aa' (AV p l).2≤3+l.length*(M+M+1):=by
 intro l
 induction l with
 | nil =>
   intro _
   have h0:Aa' (0:Rat)≤3:=by decide +kernel
   simp only [List.length_nil,Nat.zero_mul]
   exact ⟨h0,h0⟩
 | cons c l ih =>
   intro hc
   obtain ⟨i1,i2⟩:=ih (fun y hy=>hc y (by simp [hy]))
   obtain ⟨k1,k2⟩:=Fq' i1 i2 h3 h4 (hc c (by simp))
   simp only [List.length_cons,Nat.succ_mul]
   show Aa' (Bs' (AV p l) p c).1≤_∧Aa' (Bs' (AV p l) p c).2≤_
   omega
theorem Dx {a b:Rat} {n i:Nat} (ha:Aa' a≤20000) (hb:Aa' b≤20000) (hn:n≤1000) (hi:i≤1000):Aa' (Az a b n i)≤100000:=by
 unfold Az
 have e1:Aa' ((n:Nat):Rat)≤2:=by have:=Bn hn;rwa [Rat.intCast_natCast] at this
 have e2:Aa' ((i:Nat):Rat)≤2:=by have:=Bn hi;rwa [Rat.intCast_natCast] at this
 have k1:=CN b a
 have k2:=Cc' (b - a) ((n:Nat):Rat)
 have k3:=AG ((b - a) / ((n:Nat):Rat)) ((i:Nat):Rat)
 have k4:=Ct' a ((b - a) / ((n:Nat):Rat)*((i:Nat):Rat))
 omega
theorem Da {f:Nat→Rat × Rat} {N k:Nat} (h:∀ i,i≤k→Aa' (f i).1≤N∧Aa' (f i).2≤N):Aa' (Aw' f k).1≤N∧Aa' (Aw' f k).2≤N:=by
 induction k with
 | zero=>exact h 0 (nL _)
 | succ k ih =>
   obtain ⟨i1,i2⟩:=ih (fun i hi=>h i (by omega))
   obtain ⟨j1,j2⟩:=h (k+1) (nL _)
   have hm:∀ (x:Rat),x=(Aw' f k).1∨x=(Aw' f k).2→∀ y∈[(Aw' f k).2,(f (k+1)).1,(f (k+1)).2],Aa' y≤N:=by
     intro x _ y hy
     simp only [List.mem_cons,List.not_mem_nil,or_false] at hy
     rcases hy with rfl | rfl | rfl <;> assumption
   have k1:=Bt' i1 (hm _ (Or.inl rfl)) 3
   have k2:=A6' i1 (hm _ (Or.inl rfl)) 3
   simp only [List.take_succ_cons,List.take_zero] at k1 k2
   exact ⟨k1,k2⟩
theorem Bn'.stay {W V:World} {Bp B:Nat} {a b:Rat} {n i:Nat} (h:Bn' W Bp a b n i) (hne:Bp≠B) (hO:∀ (n:Nat) (x:Obj),n≠B→W.heap[n]?=some x→V.heap[n]?=some x) (hL:AU W V):Bn' V Bp a b n i:=by
 intro j hj
 obtain ⟨s1,A1,n1,c1,A2,n2,c2,s2,A3,n3,c3,A4,n4,c4,z0,z1,z2,z3,z4,z5,hx⟩:=h j hj
 have hl:=bL W _ z0
 have he:V.heap[Bp]?=W.heap[Bp]?:=by
   have:W.heap[Bp]?=some W.heap[Bp]:=by simp [hl]
   rw [hO Bp _ hne this,this]
 exact ⟨_,_,_,_,_,_,_,_,_,_,_,_,_,_,(World.cell?_of_block he).trans z0,(World.cell?_of_block he).trans z1,(World.cell?_of_block he).trans z2,(World.cell?_of_block he).trans z3,(World.cell?_of_block he).trans z4,(World.cell?_of_block he).trans z5,hL.box hx⟩
theorem C9'.keep {w V:World} {A:Option Addr} {n:Nat} {vals:Nat→Value} {cf:Nat→Rat} (h:C9' w A n vals cf) (hb:Below w.heap.size w V):C9' V A n vals cf:=⟨h.1.keep hb,fun j hj=>(h.2 j hj).keep hb⟩
theorem Ja' {w:World} {v u:Value} {a b c d x y:Rat} (hx:leastOf a [b,c,d]=x) (hy:greatestOf a [b,c,d]=y) (hv:Ao' w v a b) (hu:Ao' w u c d) (sa:Aa' a≤34359738368) (sb:Aa' b≤34359738368) (sc:Aa' c≤34359738368) (sd:Aa' d≤34359738368) :
   Calls Tryz.prog 32 #[v,u] w (Bk' w x y):=by
 rw [←hx,←hy]
 exact FH hv hu sa sb sc sd
def D9 (w:World) (b10 Bp:Nat) (a b:Rat) (m:Nat) (l:List Rat) (k:Nat) (W:World):Prop :=
  (∃ s1 A1 n1 c1 A2 n2 c2 s2 A3 n3 c3 A4 n4 c4,W.heap[b10]?=some (.cells #[.bool s1,.slice A1 n1 c1,.slice A2 n2 c2,.bool s2,.slice A3 n3 c3,.slice A4 n4 c4] 35 (0,0))∧Ao' W (.agg #[.bool s1,.slice A1 n1 c1,.slice A2 n2 c2,.bool s2,.slice A3 n3 c3,.slice A4 n4 c4]) (Aw' (As' a b m l) k).1 (Aw' (As' a b m l) k).2) ∧
    Bn' W Bp a b m m∧W.heap[w.heap.size+1]?=some (.cells #[.bool false,.slice none 0 0,.slice none 0 0,.bool false,.slice none 0 0,.slice none 0 0] 35 (0,0))∧Below w.heap.size w W∧w.heap.size+1<b10∧Bp≠b10
theorem Jr {P:Program} {f:Nat} {ar:Array Value} {w:World} {p q x y:Rat} (e1:p=x) (e2:q=y) (h:Calls P f ar w (Bk' w p q)):Calls P f ar w (Bk' w x y):=e1 ▸ e2 ▸ h
theorem Iz {w:World} {A:Option Addr} {n cap m:Nat} {vals:Nat→Value} {cf:Nat→Rat} {vb:Value} {a b:Rat} {l:List Rat} {x y:Rat} (hl:C9' w A n vals cf) (hb:Ao' w vb a b) (eL:l.length=n) (hcf:∀ j,j<n→l[j]?=some (cf j)) (ex:(Bl' a b m l).1=x) (ey:(Bl' a b m l).2=y) (hn:n≤200) (hm1:1≤m) (hm2:m≤256) (sa:Aa' a≤20000) (sb:Aa' b≤20000) (sc:∀ j,j<n→Aa' (cf j)≤100000) :
   Calls Tryz.prog 8 #[.slice A n cap,vb,.int .i64 ((m:Nat):Int)] w (Ba w x y 0):=by
 have hsl:∀ y∈l,Aa' y≤100000:=by
   intro y hy
   obtain ⟨j,hj⟩:=List.mem_iff_getElem?.1 hy
   have hjl:j<n:=by rw [←eL];exact (List.getElem?_eq_some_iff.1 hj).1
   rw [hcf j hjl] at hj
   rw [←Option.some.inj hj]
   exact sc j hjl
 have hF:∀ i,i≤300→Aa' (As' a b m l i).1≤40000203∧Aa' (As' a b m l i).2≤40000203:=by
   intro i hi
   have:=Dp (p:=(Az a b m i,Az a b m (i+1))) (M:=100000) (Dx sa sb (by omega) (by omega)) (Dx sa sb (by omega) (by omega)) l hsl
   have h2:=Nat.mul_le_mul_right (100000+100000+1) (show l.length≤200 by omega)
   unfold As'
   omega
 have hHR:=hid (fun (W:World) (j:Nat) (v:Value) (c:Nat) (hW:Below w.heap.size w W) (hj:j<m) (hv:Ao' W v (Az a b m j) (Az a b m (j+1))) =>
   Gx (w:=W) (cap:=c) (hl.keep hW) hv eL hcf (x:=(As' a b m l j).1) (y:=(As' a b m l j).2) rfl rfl hn (Dx sa sb (by omega) (by omega)) (Dx sa sb (by omega) (by omega)) sc)
 have d1:decide (((n:Nat):Int)>200)=false:=dF_ (by omega)
 have d1':¬ ((n:Nat):Int)>200:=by omega
 have sa1:Aa' a≤100000:=by omega
 have sb1:Aa' b≤100000:=by omega
 clear hsl sc hcf eL sa sb hn
 replace hF:=hid hF
 replace hl:=hid hl
 replace ex:=hid ex
 replace ey:=hid ey
 obtain ⟨P1,r1,P2,r2,P3,r3,P4,r4,rfl,-,-⟩:=id hb.opened
 replace hb:=hid hb
 obtain ⟨w1,hw1⟩:=eX ((w.alloc (.cells #[.bool (decide (a.num<0)),.slice P1 (len a.num.natAbs) r1,.slice P2 (len (below a.den)) r2,.bool (decide (b.num<0)),.slice P3 (len b.num.natAbs) r3,.slice P4 (len (below b.den)) r4] 35)).alloc (.cells #[.bool false,.slice none 0 0,.slice none 0 0,.bool false,.slice none 0 0,.slice none 0 0] 35))
 obtain ⟨b1,g1,g2⟩:=AA' hw1
 replace b1:=hid b1
 replace g2:=hid g2
 obtain ⟨z0,z1,z2,z3,z4,z5⟩:=Ae' g1
 clear g1
 go_enter Tryz.func8,Tryz.ntmps8
 go_upto_region 1 with fail
 rw [←hw1]
 clear hw1
 have HX:=hid (CD (n:=m) (hb.out.keep b1.out) hm1 hm2 sa1 sb1)
 go_wp2_with fail
 refine (HX.out).mono ?_
 rintro e w2 ⟨Bp,rfl,hP,b2⟩
 replace hP:=hid hP
 replace b2:=hid b2
 clear HX z0 z1 z2 z3 z4 z5
 obtain ⟨s1,A1,n1,c1,A2,n2,c2,s2,A3,n3,c3,A4,n4,c4,z0,z1,z2,z3,z4,z5,hx0⟩:=hP.out 0 (by omega)
 rw [Nat.zero_mul] at z0
 rw [Nat.zero_mul,Nat.zero_add] at z1 z2 z3 z4 z5
 have hm0:decide (0<m)=true:=dT_ (by omega)
 have hm0':(0:Int)<((m:Nat):Int):=by omega
 have b12:=hid (bS b1.out b2.out)
 have HX:=hid (hHR.out w2 0 _ cap b12.out (by omega) hx0)
 obtain ⟨x0,ex0⟩:=eY ((As' a b m l 0).1)
 obtain ⟨y0,ey0⟩:=eY ((As' a b m l 0).2)
 rw [ex0,ey0] at HX
 replace ex0:=hid ex0
 replace ey0:=hid ey0
 clear hx0
 go_wp2_with fail
 refine (HX.out).mono ?_
 rintro e w3 ⟨v3,rfl,hv3,b3⟩
 obtain ⟨C41,j41,C42,j42,C43,j43,C44,j44,rfl,-,-,-,-⟩:=id hv3.opened
 replace hv3:=hid hv3
 replace b3:=hid b3
 clear HX z0 z1 z2 z3 z4 z5
 go_upto_region 7 with fail
 obtain ⟨w4,hw4⟩:=eX (w3.alloc (.cells #[.bool (decide (x0.num<0)),.slice C41 (Vx.len x0.num.natAbs) j41,.slice C42 (Vx.len (below x0.den)) j42,.bool (decide (y0.num<0)),.slice C43 (Vx.len y0.num.natAbs) j43,.slice C44 (Vx.len (below y0.den)) j44] 35))
 have b4:=hid (AC hw4)
 have L4:=hid (AI' hw4)
 rw [←hw4]
 clear hw4
 have y2_4:=hid (bS b3.out b4.out)
 have y1_4:=hid (bS (bS b2.out b3.out) b4.out)
 have y0_4:=hid (bS (bS (bS b1.out b2.out) b3.out) b4.out)
 have hBl:Bp<w2.heap.size:=bL w2 _ (hP.out 0 (by omega)).choose_spec.choose_spec.choose_spec.choose_spec.choose_spec.choose_spec.choose_spec.choose_spec.choose_spec.choose_spec.choose_spec.choose_spec.choose_spec.choose_spec.1
 obtain ⟨b10,h10⟩:=eY w3.heap.size
 have lt1:w.heap.size+1<b10:=by rw [←h10];exact at_lt (Ad' g2.out (bS b2.out b3.out))
 have ltP:Bp≠b10:=by rw [←h10];have:=b3.out.size;omega
 have L9:=L4.out
 rw [h10] at L9
 have HE:Hid (D9 w b10 Bp a b m l 0 w4):=hid ⟨⟨_,_,_,_,_,_,_,_,_,_,_,_,_,_,L9,by show Ao' _ _ (As' a b m l 0).1 (As' a b m l 0).2;rw [ex0.out,ey0.out];exact (hv3.out.keep b4.out)⟩,hP.out.keep y2_4.out,Ad' g2.out y1_4.out,y0_4.out,lt1,ltP⟩
 rw [h10]
 clear h10 L9 L4 hv3 g2 hP hBl b1 b2 b3 b4 b12 hb ex0 ey0
 have hlm:((m:Nat):Int)≤256:=by omega
 have hlm1:1≤m:=hm1
 go_wp2_with fail
 case inl =>
   subst h
   go_loopw [35] (fun iv wr=>iv=.int .i64 0∧Hid (D9 w b10 Bp a b 1 l 0 wr)) (fun _ _=>0)
   case atStart=>exact ⟨rfl,HE⟩
   case round =>
     obtain ⟨rfl,hrel⟩:=hrel
     clear HE
     obtain ⟨⟨s1,A1,n1,c1,A2,n2,c2,s2,A3,n3,c3,A4,n4,c4,g5,hacc⟩,hP,gR,hBW,-,-⟩:=hrel.out
     clear hrel
     obtain ⟨p,hp⟩:=eY ((Aw' (As' a b 1 l) 0).1)
     obtain ⟨q,hq⟩:=eY ((Aw' (As' a b 1 l) 0).2)
     rw [hp,hq] at hacc
     have tp:True:=trivial
     have tq:True:=trivial
     have e1:p=x:=hp.symm.trans ex.out
     have e2:q=y:=hq.symm.trans ey.out
     subst e1 e2
     obtain ⟨z0,z1,z2,z3,z4,z5⟩:=Ae' g5
     have q0:=cR _ _ 0 _ _ _ gR
     have F0:=fR wr (w.heap.size+1) 0 _ _ gR
     have q1:=cR _ _ 1 _ _ _ gR
     have F1:=fR wr (w.heap.size+1) 1 _ _ gR
     have q2:=cR _ _ 2 _ _ _ gR
     have F2:=fR wr (w.heap.size+1) 2 _ _ gR
     have q3:=cR _ _ 3 _ _ _ gR
     have F3:=fR wr (w.heap.size+1) 3 _ _ gR
     have q4:=cR _ _ 4 _ _ _ gR
     have F4:=fR wr (w.heap.size+1) 4 _ _ gR
     have q5:=cR _ _ 5 _ _ _ gR
     have F5:=fR wr (w.heap.size+1) 5 _ _ gR
     simp only [lg,lz,ls] at q0 q1 q2 q3 q4 q5
     obtain ⟨ue,hw⟩:=eX (((((((wr.setCell ⟨(w.heap.size+1),0,none⟩ (.bool s1)).setCell ⟨(w.heap.size+1),1,none⟩ (.slice A1 n1 c1)).setCell ⟨(w.heap.size+1),2,none⟩ (.slice A2 n2 c2)).setCell ⟨(w.heap.size+1),3,none⟩ (.bool s2)).setCell ⟨(w.heap.size+1),4,none⟩ (.slice A3 n3 c3)).setCell ⟨(w.heap.size+1),5,none⟩ (.slice A4 n4 c4)))
     obtain ⟨E,-,LV,BL⟩:=AG' gR hw
     have FE:=hid (LV.box hacc)
     have FB:=hid (BL _ _ (Nat.le_succ _) hBW)
     replace E:=hid E
     replace hw:=hid hw
     clear hp hq ex ey hP gR hBW g5 BL LV tp tq hacc hHR hF
     go_wp2_with fail
     rw [←hw.out]
     obtain ⟨r0,r1',r2',r3',r4',r5⟩:=Ae' E.out
     refine bP (v:=.tuple #[.agg #[.bool s1,.slice A1 n1 c1,.slice A2 n2 c2,.bool s2,.slice A3 n3 c3,.slice A4 n4 c4],.int .i64 0]) ?_ rfl ⟨_,rfl,FE.out,FB.out⟩
     simp [results,Tryz.results8,go_sem,r0,r1',r2',r3',r4',r5]
 go_loopw [35] (fun iv wr=>∃ k:Nat,k≤m - 1∧iv=.int .i64 ((k:Nat):Int)∧Hid (D9 w b10 Bp a b m l k wr)) (fun iv _=>m - 1 - (intOf iv).toNat)
 case atStart=>exact ⟨0,Nat.zero_le _,rfl,HE⟩
 case round =>
   obtain ⟨k,hk,rfl,hrel⟩:=hrel
   clear HE
   obtain ⟨⟨s1,A1,n1,c1,A2,n2,c2,s2,A3,n3,c3,A4,n4,c4,g5,hacc⟩,hP,gR,hBW,-,-⟩:=hrel.out
   clear hrel
   obtain ⟨p,hp⟩:=eY ((Aw' (As' a b m l) k).1)
   obtain ⟨q,hq⟩:=eY ((Aw' (As' a b m l) k).2)
   obtain ⟨tp,tq⟩:=Da (f:=As' a b m l) (N:=40000203) (k:=k) (fun i hi=>hF.out i (by omega))
   rw [hp] at hacc tp
   rw [hq] at hacc tq
   rcases Nat.lt_or_ge k (m - 1) with hkn | hkn
   · have hin:decide (k<m - 1)=true:=dT_ hkn
     obtain ⟨s5,A5,n5,c5,A6,n6,c6,s6,A7,n7,c7,A8,n8,c8,y0,y1,y2,y3,y4,y5,hx9⟩:=hP (k+1) (by omega)
     obtain ⟨u,hu⟩:=eY ((k+1)*6)
     have hu':6+k*6=u:=by omega
     rw [hu] at y0 y1 y2 y3 y4 y5
     obtain ⟨fx,hfx⟩:=eY ((As' a b m l (k+1)).1)
     obtain ⟨fy,hfy⟩:=eY ((As' a b m l (k+1)).2)
     obtain ⟨tx,ty⟩:=hF.out (k+1) (by omega)
     rw [hfx] at tx
     rw [hfy] at ty
     obtain ⟨p2,e_p2⟩:=eY (leastOf p [q,fx,fy])
     obtain ⟨q2,e_q2⟩:=eY (greatestOf p [q,fx,fy])
     have hst:Aw' (As' a b m l) (k+1)=(p2,q2):=by
       show D7 (Aw' (As' a b m l) k) (As' a b m l (k+1))=_
       unfold D7
       rw [hp,hq,hfx,hfy,e_p2,e_q2]
     have tp':Aa' p≤34359738368:=by omega
     have tq':Aa' q≤34359738368:=by omega
     have tx':Aa' fx≤34359738368:=by omega
     have ty':Aa' fy≤34359738368:=by omega
     have hkm:k+1<m:=by omega
     have hBl:b10<wr.heap.size:=at_lt g5
     clear hp hq tp tq tx ty
     replace hacc:=hid hacc
     replace hx9:=hid hx9
     replace g5:=hid g5
     replace hP:=hid hP
     replace gR:=hid gR
     replace hBW:=hid hBW
     replace hst:=hid hst
     replace e_p2:=hid e_p2
     replace e_q2:=hid e_q2
     replace hfx:=hid hfx
     replace hfy:=hid hfy
     go_upto_region 10 with fail
     obtain ⟨w91,hw91⟩:=eX (wr.alloc (.cells #[.bool s5,.slice A5 n5 c5,.slice A6 n6 c6,.bool s6,.slice A7 n7 c7,.slice A8 n8 c8] 35))
     have b91:=hid (AC hw91)
     have L91:=AI' hw91
     rw [←hw91]
     clear hw91
     obtain ⟨D,hD⟩:=eY wr.heap.size
     have hDl:D<w91.heap.size:=by rw [←hD];exact at_lt L91
     rw [hD] at L91
     obtain ⟨x0,x1,x2,x3,x4,x5⟩:=Ae' L91
     rw [hD]
     clear L91 hD y0 y1 y2 y3 y4 y5 hu hu'
     obtain ⟨q0,q1,q2',q3,q4,q5⟩:=Ae' (Ad' g5.out b91.out)
     replace hBl:=ltl hBl b91.out.size
     go_wp2_with fail
     refine Ci' (s:=5) (S:=(fun w'=>(w'.cell? ⟨b10,0,none⟩=w91.cell? ⟨b10,0,none⟩∧w'.cell? ⟨b10,1,none⟩=w91.cell? ⟨b10,1,none⟩∧w'.cell? ⟨b10,2,none⟩=w91.cell? ⟨b10,2,none⟩∧w'.cell? ⟨b10,3,none⟩=w91.cell? ⟨b10,3,none⟩∧w'.cell? ⟨b10,4,none⟩=w91.cell? ⟨b10,4,none⟩∧w'.cell? ⟨b10,5,none⟩=w91.cell? ⟨b10,5,none⟩∧w'.cell? ⟨D,0,none⟩=w91.cell? ⟨D,0,none⟩∧w'.cell? ⟨D,1,none⟩=w91.cell? ⟨D,1,none⟩∧w'.cell? ⟨D,2,none⟩=w91.cell? ⟨D,2,none⟩∧w'.cell? ⟨D,3,none⟩=w91.cell? ⟨D,3,none⟩∧w'.cell? ⟨D,4,none⟩=w91.cell? ⟨D,4,none⟩∧w'.cell? ⟨D,5,none⟩=w91.cell? ⟨D,5,none⟩))) (by kernel_rfl) (by rfl) (by rfl) (by kernel_rfl) ?_
     simp only [Cg',lt,ly,lu]
     have hHeld:(fun w'=>(w'.cell? ⟨b10,0,none⟩=w91.cell? ⟨b10,0,none⟩∧w'.cell? ⟨b10,1,none⟩=w91.cell? ⟨b10,1,none⟩∧w'.cell? ⟨b10,2,none⟩=w91.cell? ⟨b10,2,none⟩∧w'.cell? ⟨b10,3,none⟩=w91.cell? ⟨b10,3,none⟩∧w'.cell? ⟨b10,4,none⟩=w91.cell? ⟨b10,4,none⟩∧w'.cell? ⟨b10,5,none⟩=w91.cell? ⟨b10,5,none⟩∧w'.cell? ⟨D,0,none⟩=w91.cell? ⟨D,0,none⟩∧w'.cell? ⟨D,1,none⟩=w91.cell? ⟨D,1,none⟩∧w'.cell? ⟨D,2,none⟩=w91.cell? ⟨D,2,none⟩∧w'.cell? ⟨D,3,none⟩=w91.cell? ⟨D,3,none⟩∧w'.cell? ⟨D,4,none⟩=w91.cell? ⟨D,4,none⟩∧w'.cell? ⟨D,5,none⟩=w91.cell? ⟨D,5,none⟩)) w91:=⟨rfl,rfl,rfl,rfl,rfl,rfl,rfl,rfl,rfl,rfl,rfl,rfl⟩
     obtain ⟨w92,hw92⟩:=eX w91.drew
     have b92:Hid (Below w91.heap.size w91 w92):=hid (by rw [hw92];exact ⟨rfl,rfl,rfl,nL _,fun _ _=>rfl⟩)
     replace hHeld:(fun w'=>(w'.cell? ⟨b10,0,none⟩=w91.cell? ⟨b10,0,none⟩∧w'.cell? ⟨b10,1,none⟩=w91.cell? ⟨b10,1,none⟩∧w'.cell? ⟨b10,2,none⟩=w91.cell? ⟨b10,2,none⟩∧w'.cell? ⟨b10,3,none⟩=w91.cell? ⟨b10,3,none⟩∧w'.cell? ⟨b10,4,none⟩=w91.cell? ⟨b10,4,none⟩∧w'.cell? ⟨b10,5,none⟩=w91.cell? ⟨b10,5,none⟩∧w'.cell? ⟨D,0,none⟩=w91.cell? ⟨D,0,none⟩∧w'.cell? ⟨D,1,none⟩=w91.cell? ⟨D,1,none⟩∧w'.cell? ⟨D,2,none⟩=w91.cell? ⟨D,2,none⟩∧w'.cell? ⟨D,3,none⟩=w91.cell? ⟨D,3,none⟩∧w'.cell? ⟨D,4,none⟩=w91.cell? ⟨D,4,none⟩∧w'.cell? ⟨D,5,none⟩=w91.cell? ⟨D,5,none⟩)) w92:=by rw [hw92];exact hHeld
     rw [←hw92]
     clear hw92
     refine tk (i:=0) (h:=?_)
     try simp only [Act.put,lt,ly,lu]
     refine tk (i:=1) (h:=?_)
     try simp only [Act.put,lt,ly,lu]
     refine tk (i:=2) (h:=?_)
     try simp only [Act.put,lt,ly,lu]
     have y90_92:=hid (bS b91.out b92.out)
     refine rd (i:=3) (h:=fun K hK=>?_);go_simp;go_at_call 31
     refine ((Jr hfx.out hfy.out (hHR.out w92 (k+1) _ cap (chain hBW.out y90_92.out) hkm (hx9.out.keep y90_92.out)))).mono ?_
     rintro e w93 ⟨v93,rfl,hv93,b93⟩
     obtain ⟨C61,j61,C62,j62,C63,j63,C64,j64,rfl,-,-,-,-⟩:=id hv93.opened
     replace hv93:=hid hv93
     replace b93:=hid b93
     have y91_93:=hid (bS b92.out b93.out)
     have hS:=y91_93.out
     clear hHeld
     refine hK.out _ _ ?_ (fun hHeld=>?_)
     · (try dsimp only)
       exact ⟨hS.cell (p:=⟨b10,0,none⟩) hBl,hS.cell (p:=⟨b10,1,none⟩) hBl,hS.cell (p:=⟨b10,2,none⟩) hBl,hS.cell (p:=⟨b10,3,none⟩) hBl,hS.cell (p:=⟨b10,4,none⟩) hBl,hS.cell (p:=⟨b10,5,none⟩) hBl,hS.cell (p:=⟨D,0,none⟩) hDl,hS.cell (p:=⟨D,1,none⟩) hDl,hS.cell (p:=⟨D,2,none⟩) hDl,hS.cell (p:=⟨D,3,none⟩) hDl,hS.cell (p:=⟨D,4,none⟩) hDl,hS.cell (p:=⟨D,5,none⟩) hDl⟩
     clear hK K hS;try simp only [Act.put,lt,ly,lu]
     have y90_93:=hid (bS y90_92.out b93.out)
     refine rd (i:=4) (h:=fun K hK=>?_);go_simp;go_at_call 32
     refine (Ja' e_p2.out e_q2.out (hacc.out.keep y90_93.out) hv93.out tp' tq' tx' ty').mono ?_
     rintro e w94 ⟨v94,rfl,hv94,b94⟩
     obtain ⟨C65,j65,C66,j66,C67,j67,C68,j68,rfl,-,-,-,-⟩:=id hv94.opened
     replace hv94:=hid hv94
     replace b94:=hid b94
     have y91_94:=hid (bS y91_93.out b94.out)
     have hS:=y91_94.out
     clear hHeld
     refine hK.out _ _ ?_ (fun hHeld=>?_)
     · (try dsimp only)
       exact ⟨hS.cell (p:=⟨b10,0,none⟩) hBl,hS.cell (p:=⟨b10,1,none⟩) hBl,hS.cell (p:=⟨b10,2,none⟩) hBl,hS.cell (p:=⟨b10,3,none⟩) hBl,hS.cell (p:=⟨b10,4,none⟩) hBl,hS.cell (p:=⟨b10,5,none⟩) hBl,hS.cell (p:=⟨D,0,none⟩) hDl,hS.cell (p:=⟨D,1,none⟩) hDl,hS.cell (p:=⟨D,2,none⟩) hDl,hS.cell (p:=⟨D,3,none⟩) hDl,hS.cell (p:=⟨D,4,none⟩) hDl,hS.cell (p:=⟨D,5,none⟩) hDl⟩
     clear hK K hS;try simp only [Act.put,lt,ly,lu]
     refine tk (i:=5) (h:=?_)
     try simp only [Act.put,lt,ly,lu]
     refine wpAnyH_done (by kernel_rfl) ?_ _
     clear hHeld x0 x1 x2 x3 x4 x5 q0 q1 q2' q3 q4 q5
     have y90_94:=hid (bS y90_93.out b94.out)
     have DB:=Ad' g5.out y90_94.out
     have k0:=cR _ _ 0 _ _ _ DB
     have F0:=fR w94 b10 0 _ _ DB
     have k1:=cR _ _ 1 _ _ _ DB
     have F1:=fR w94 b10 1 _ _ DB
     have k2:=cR _ _ 2 _ _ _ DB
     have F2:=fR w94 b10 2 _ _ DB
     have k3:=cR _ _ 3 _ _ _ DB
     have F3:=fR w94 b10 3 _ _ DB
     have k4:=cR _ _ 4 _ _ _ DB
     have F4:=fR w94 b10 4 _ _ DB
     have k5:=cR _ _ 5 _ _ _ DB
     have F5:=fR w94 b10 5 _ _ DB
     simp only [lg,lz,ls] at k0 k1 k2 k3 k4 k5
     obtain ⟨ue,hw⟩:=eX (((((((w94.setCell ⟨b10,0,none⟩ (.bool (decide (p2.num<0)))).setCell ⟨b10,1,none⟩ (.slice C65 (Vx.len p2.num.natAbs) j65)).setCell ⟨b10,2,none⟩ (.slice C66 (Vx.len (below p2.den)) j66)).setCell ⟨b10,3,none⟩ (.bool (decide (q2.num<0)))).setCell ⟨b10,4,none⟩ (.slice C67 (Vx.len q2.num.natAbs) j67)).setCell ⟨b10,5,none⟩ (.slice C68 (Vx.len (below q2.den)) j68)))
     obtain ⟨E,OT,LV,BL⟩:=AG' DB hw
     have FIN:Hid (D9 w b10 Bp a b m l (k+1) ue):=hid ⟨⟨_,_,_,_,_,_,_,_,_,_,_,_,_,_,E,by rw [hst.out];exact LV.box hv94.out⟩,(hP.out.keep y90_94.out).stay ltP OT LV,OT _ _ (by omega) (Ad' gR.out y90_94.out),BL _ _ (by omega) (chain hBW.out y90_94.out),lt1,ltP⟩
     refine CP' (by rfl) (by rfl) ?_
     clear DB E OT LV BL
     go_simp
     rw [←hw]
     clear hw k0 k1 k2 k3 k4 k5 F0 F1 F2 F3 F4 F5
     go_wp2_with fail
     go_roundw
     case rel=>exact ⟨k+1,hkn,by go_num,FIN⟩
     case measure=>simp [intOf];omega
   · obtain rfl:k=m - 1:=Nat.le_antisymm hk hkn
     have hin:decide (m - 1<m - 1)=false:=dF_ (Nat.lt_irrefl _)
     have e1:p=x:=hp.symm.trans ex.out
     have e2:q=y:=hq.symm.trans ey.out
     subst e1 e2
     obtain ⟨z0,z1,z2,z3,z4,z5⟩:=Ae' g5
     have q0:=cR _ _ 0 _ _ _ gR
     have F0:=fR wr (w.heap.size+1) 0 _ _ gR
     have q1:=cR _ _ 1 _ _ _ gR
     have F1:=fR wr (w.heap.size+1) 1 _ _ gR
     have q2:=cR _ _ 2 _ _ _ gR
     have F2:=fR wr (w.heap.size+1) 2 _ _ gR
     have q3:=cR _ _ 3 _ _ _ gR
     have F3:=fR wr (w.heap.size+1) 3 _ _ gR
     have q4:=cR _ _ 4 _ _ _ gR
     have F4:=fR wr (w.heap.size+1) 4 _ _ gR
     have q5:=cR _ _ 5 _ _ _ gR
     have F5:=fR wr (w.heap.size+1) 5 _ _ gR
     simp only [lg,lz,ls] at q0 q1 q2 q3 q4 q5
     obtain ⟨ue,hw⟩:=eX (((((((wr.setCell ⟨(w.heap.size+1),0,none⟩ (.bool s1)).setCell ⟨(w.heap.size+1),1,none⟩ (.slice A1 n1 c1)).setCell ⟨(w.heap.size+1),2,none⟩ (.slice A2 n2 c2)).setCell ⟨(w.heap.size+1),3,none⟩ (.bool s2)).setCell ⟨(w.heap.size+1),4,none⟩ (.slice A3 n3 c3)).setCell ⟨(w.heap.size+1),5,none⟩ (.slice A4 n4 c4)))
     obtain ⟨E,-,LV,BL⟩:=AG' gR hw
     have FE:=hid (LV.box hacc)
     have FB:=hid (BL _ _ (Nat.le_succ _) hBW)
     replace E:=hid E
     replace hw:=hid hw
     clear hp hq ex ey hP gR hBW g5 BL LV tp tq hacc hHR hF
     go_wp2_with fail
     rw [←hw.out]
     obtain ⟨r0,r1',r2',r3',r4',r5⟩:=Ae' E.out
     refine bP (v:=.tuple #[.agg #[.bool s1,.slice A1 n1 c1,.slice A2 n2 c2,.bool s2,.slice A3 n3 c3,.slice A4 n4 c4],.int .i64 0]) ?_ rfl ⟨_,rfl,FE.out,FB.out⟩
     simp [results,Tryz.results8,go_sem,r0,r1',r2',r3',r4',r5]
end Go.Proofs.YtbigkkjnhcpgiaaGreatDoor
namespace Go.Proofs.YtbigkkjnhcpgiaaGreatDoor.Rf
open Lib (hid)
open Go.RowKit
open Rx
open Vx (Aa' Al' Am)
def DQ (I:Value→Rat→Rat→Prop) (xs:List Value) (l:List (Rat × Rat)):Prop :=
  xs.length=l.length*6∧∀ (i:Nat) (q:Rat × Rat),l[i]?=some q→∃ a b c d e f,xs[i*6]?=some a∧xs[i*6+1]?=some b∧xs[i*6+2]?=some c∧xs[i*6+3]?=some d∧xs[i*6+4]?=some e∧xs[i*6+5]?=some f∧I (.agg #[a,b,c,d,e,f]) q.1 q.2
theorem DQ.mono {I J:Value→Rat→Rat→Prop} (hI:∀ v p q,I v p q→J v p q) {l:List (Rat × Rat)} {xs:List Value} (h:DQ I xs l):DQ J xs l :=
 ⟨h.1,fun i q hi=>by
   obtain ⟨a,b,c,d,e,f,h0,h1,h2,h3,h4,h5,h6⟩:=h.2 i q hi
   exact ⟨a,b,c,d,e,f,h0,h1,h2,h3,h4,h5,hI _ _ _ h6⟩⟩
theorem DQ.snoc {I:Value→Rat→Rat→Prop} {a b c d e f:Value} {q:Rat × Rat} (hq:I (.agg #[a,b,c,d,e,f]) q.1 q.2) {l:List (Rat × Rat)} {xs:List Value} (h:DQ I xs l):DQ I (xs++[a,b,c,d,e,f]) (l++[q]):=by
 obtain ⟨h0,h1⟩:=h
 refine ⟨by simp [h0,Nat.succ_mul],fun i p hi=>?_⟩
 rcases Nat.lt_or_ge i l.length with hl | hl
 · rw [List.getElem?_append_left hl] at hi
   obtain ⟨a',b',c',d',e',f',k0,k1,k2,k3,k4,k5,k6⟩:=h1 i p hi
   have hb:i*6+5<xs.length:=by omega
   refine ⟨a',b',c',d',e',f',?_,?_,?_,?_,?_,?_,k6⟩ <;> rw [List.getElem?_append_left (by omega)] <;> assumption
 · rw [List.getElem?_append_right hl] at hi
   have hi0:i=l.length:=by
     have:=(List.getElem?_eq_some_iff.1 hi).1
     simp at this
     omega
   subst hi0
   simp only [Nat.sub_self,List.getElem?_cons_zero,Option.some.injEq] at hi
   subst hi
   refine ⟨a,b,c,d,e,f,?_,?_,?_,?_,?_,?_,hq⟩ <;> rw [List.getElem?_append_right (by omega),h0]
   · simp
   · rw [show l.length*6+1 - l.length*6=1 by omega];rfl
   · rw [show l.length*6+2 - l.length*6=2 by omega];rfl
   · rw [show l.length*6+3 - l.length*6=3 by omega];rfl
   · rw [show l.length*6+4 - l.length*6=4 by omega];rfl
   · rw [show l.length*6+5 - l.length*6=5 by omega];rfl
def BT (I:World→Value→Rat→Rat→Prop) (T:TypeId) (B:Nat) (w:World) (v:Value) (l:List (Rat × Rat)):Prop :=
  ∃ g cap xs,v=.slice (some ⟨g,0,none⟩) l.length cap∧w.ownsRow B T 6 v l.length xs∧B8' w v∧DQ (I w) xs l
theorem Em' {w w':World} {B:Nat} {T:TypeId} {v:Value} {n:Nat} {xs:List Value} (h:w.ownsRow B T 6 v n xs) (hb:∀ g,v.ownBlock=some g→g<w.heap.size→w'.heap[g]?=w.heap[g]?):w'.ownsRow B T 6 v n xs:=by
 refine ⟨h.1,?_⟩
 rcases h.2 with h0 | ⟨g,cap,cur,hv,h1,h2,h3⟩
 · exact Or.inl h0
 · exact Or.inr ⟨g,cap,cur,hv,h1,(hb g (by rw [hv];rfl) (gE.1 h2).1).trans h2,h3⟩
theorem BT.own {I:World→Value→Rat→Rat→Prop} {T:TypeId} {B:Nat} {w:World} {v:Value} {l:List (Rat × Rat)} (h:BT I T B w v l):∀ g,v.ownBlock=some g→B≤g∧g<w.heap.size:=by
 obtain ⟨g,cap,xs,hv,h1,h2,h3⟩:=h
 exact fun k hk=>h1.lt k hk
theorem BT.keep {I:World→Value→Rat→Rat→Prop} {T:TypeId} {B:Nat} {w w':World} {v:Value} {l:List (Rat × Rat)} (h:BT I T B w v l) (hb:Below w.heap.size w w') (hI:∀ v p q,I w v p q→I w' v p q):BT I T B w' v l:=by
 obtain ⟨g,cap,xs,hv,h1,h2,h3⟩:=h
 have hB:∀ g,v.ownBlock=some g→g<w.heap.size→w'.heap[g]?=w.heap[g]?:=fun g _ hlt=>hb.block g hlt
 exact ⟨g,cap,xs,hv,Em' h1 hB,DF' h2 (fun k hk=>(h1.lt k hk).2) hB,h3.mono hI⟩
theorem Hv {I:World→Value→Rat→Rat→Prop} {T:TypeId} {B:Nat} {w:World} (hB:B≤w.heap.size):BT I T B (w.alloc (.cells #[] T)) (.slice (some ⟨w.heap.size,0,none⟩) 0 0) [] :=
 ⟨w.heap.size,0,[],rfl,World.ownsRow_made w #[] 0 hB (by decide) rfl,fun g hg o u hu=>by
   obtain rfl:w.heap.size=g:=Option.some.inj hg
   rw [cR _ _ _ _ _ _ (hA_ w _)] at hu
   simp at hu,rfl,fun i q hi=>by simp at hi⟩
theorem Iz' {P:Program} {o:Oper} {a:Act} {w:World} {K:Act→World→Prop} {Q:Exit→Act→World→Prop} {s x:Operand} {t:TypeId}
   (ho:o.op=.call { callee:=.builtin .append,args:=#[s,x],argTypes:=#[t,t] }) {e:TypeId} {bytes:Nat} (ht:P.underlying t=some (.slice e)) (hi:(P.info? e).map (fun i=>(i.zero,i.size,i.bytes))=some (some (.agg #[.bool false,.slice none 0 0,.slice none 0 0,.bool false,.slice none 0 0,.slice none 0 0]),6,bytes))
   {I:World→Value→Rat→Rat→Prop} (hI:∀ w w',AU w w'→∀ v p q,I w v p q→I w' v p q) {B:Nat} {v:Value} {l:List (Rat × Rat)} {p q:Rat} (hs:a.eval s=v) (hG:BT I e B w v l) {k c n1 c1 n2 c2 n3 c3 n4 c4:Nat} {A1 A2 A3 A4:Option Addr} {s1 s2:Bool} (hx:a.eval x=.slice (some ⟨k,0,none⟩) 1 c)
   (hrow:w.heap[k]?=some (.cells #[.bool s1,.slice A1 n1 c1,.slice A2 n2 c2,.bool s2,.slice A3 n3 c3,.slice A4 n4 c4] e (0,0))) (hq:I w (.agg #[.bool s1,.slice A1 n1 c1,.slice A2 n2 c2,.bool s2,.slice A3 n3 c3,.slice A4 n4 c4]) p q) (hn:(l.length+1)*bytes≤140737488355328) (hm:l.length+1≤maxLen) (hB:B≤w.heap.size)
   (h:∀ v' w',BT I e B w' v' (l++[(p,q)])→AU w w'→w.grownBy w' v.ownBlock→(∀ g,v'.ownBlock=some g→v.ownBlock=some g∨g=w.heap.size)→K (a.put o.dst v') w'):o.wp P a w K Q:=by
 obtain ⟨i,hi1,hi2,hi3,hi4⟩:=info_parts hi
 obtain ⟨g0,cap0,xs,hv,hown,hni,hels⟩:=hG
 obtain ⟨r0,r1,r2,r3,r4,r5⟩:=Ae' hrow
 refine Dn ho ht hi1 hi2 hi3 hi4 rfl (by decide) hs hown hx (news:=[.bool s1,.slice A1 n1 c1,.slice A2 n2 c2,.bool s2,.slice A3 n3 c3,.slice A4 n4 c4]) rfl ?_ ?_ (by decide) hm hn hB hni ?_ ?_ ?_
 · intro j u hj
   match j with
   | 0=>obtain rfl:=Option.some.inj hj;exact r0
   | 1=>obtain rfl:=Option.some.inj hj;exact r1
   | 2=>obtain rfl:=Option.some.inj hj;exact r2
   | 3=>obtain rfl:=Option.some.inj hj;exact r3
   | 4=>obtain rfl:=Option.some.inj hj;exact r4
   | 5=>obtain rfl:=Option.some.inj hj;exact r5
   | j+6=>simp at hj
 · intro u hu
   simp only [List.mem_cons,List.not_mem_nil,or_false] at hu
   rcases hu with rfl | rfl | rfl | rfl | rfl | rfl <;> rfl
 · intro u hu k n
   simp only [List.mem_cons,List.not_mem_nil,or_false] at hu
   rcases hu with rfl | rfl | rfl | rfl | rfl | rfl <;> simp
 · intro u hu k n
   simp only [Value.cells,List.mem_cons,List.not_mem_nil,or_false] at hu
   rcases hu with rfl | rfl | rfl | rfl | rfl | rfl <;> simp
 · intro g cap w' h1 h2 h3 h4 h5
   have LV:=D5' hni h2
   have el:(l++[(p,q)]).length=l.length+1:=by simp
   refine h _ w' ⟨g,cap,xs++[.bool s1,.slice A1 n1 c1,.slice A2 n2 c2,.bool s2,.slice A3 n3 c3,.slice A4 n4 c4],by rw [el],by rw [el];exact h1,h5,(hels.mono (fun v p q hv=>hI _ _ LV v p q hv)).snoc (q:=(p,q)) (hI _ _ LV _ _ _ hq)⟩ LV h2 ?_
   intro g' hg'
   obtain rfl:g=g':=Option.some.inj hg'
   exact h3
def Ch (w:World) (b:Nat) (l:List (Rat × Rat)):Prop:=∀ (i:Nat) (q:Rat × Rat),l[i]?=some q→∃ s1 A1 n1 c1 A2 n2 c2 s2 A3 n3 c3 A4 n4 c4,w.cell? ⟨b,i*6,none⟩=some (.bool s1)∧w.cell? ⟨b,i*6+1,none⟩=some (.slice A1 n1 c1)∧w.cell? ⟨b,i*6+2,none⟩=some (.slice A2 n2 c2) ∧
  w.cell? ⟨b,i*6+3,none⟩=some (.bool s2)∧w.cell? ⟨b,i*6+4,none⟩=some (.slice A3 n3 c3)∧w.cell? ⟨b,i*6+5,none⟩=some (.slice A4 n4 c4)∧Aw w (.agg #[.bool s1,.slice A1 n1 c1,.slice A2 n2 c2,.bool s2,.slice A3 n3 c3,.slice A4 n4 c4]) q.1 q.2
theorem Ch.keep {w w':World} {b:Nat} {l:List (Rat × Rat)} (h:Ch w b l) (hb:Below w.heap.size w w'):Ch w' b l:=by
 intro i q hi
 obtain ⟨s1,A1,n1,c1,A2,n2,c2,s2,A3,n3,c3,A4,n4,c4,h0,h1,h2,h3,h4,h5,h6⟩:=h i q hi
 have hl:=bL w _ h0
 exact ⟨s1,A1,n1,c1,A2,n2,c2,s2,A3,n3,c3,A4,n4,c4,(hb.cell (p:=⟨b,i*6,none⟩) hl).trans h0,(hb.cell (p:=⟨b,i*6+1,none⟩) hl).trans h1,(hb.cell (p:=⟨b,i*6+2,none⟩) hl).trans h2,(hb.cell (p:=⟨b,i*6+3,none⟩) hl).trans h3,(hb.cell (p:=⟨b,i*6+4,none⟩) hl).trans h4,(hb.cell (p:=⟨b,i*6+5,none⟩) hl).trans h5,h6.keep hb⟩
theorem BZ' {w:World} {B:Nat} {T:TypeId} {g n cap:Nat} {xs:List Value} {j:Nat} {u:Value} (h:w.ownsRow B T 6 (.slice (some ⟨g,0,none⟩) n cap) n xs) (hj:xs[j]?=some u):w.cell? ⟨g,j,none⟩=some u:=by
 have:=h.cells (g:=g) rfl j u hj
 rw [Addr.add_lit,Nat.zero_add] at this
 exact this
theorem BT.rboxes {T:TypeId} {B:Nat} {w:World} {v:Value} {l:List (Rat × Rat)} (h:BT Aw T B w v l):∃ g cap,v=.slice (some ⟨g,0,none⟩) l.length cap∧Ch w g l:=by
 obtain ⟨g,cap,xs,rfl,h1,-,h3⟩:=h
 refine ⟨g,cap,rfl,fun i q hi=>?_⟩
 obtain ⟨a,b,c,d,e,f,e1,e2,e3,e4,e5,e6,hq⟩:=h3.2 i q hi
 obtain ⟨A1,c1,A2,c2,A3,c3,A4,c4,he,-,-⟩:=id hq.opened
 injection he with he
 injection he with he
 simp only [List.cons.injEq] at he
 obtain ⟨rfl,rfl,rfl,rfl,rfl,rfl,-⟩:=he
 exact ⟨_,_,_,_,_,_,_,_,_,_,_,_,_,_,BZ' h1 e1,BZ' h1 e2,BZ' h1 e3,BZ' h1 e4,BZ' h1 e5,BZ' h1 e6,hq⟩
theorem IA:∀ w w':World,AU w w'→∀ v p q,Aw w v p q→Aw w' v p q:=fun _ _ h _ _ _ k=>h.rbox k
theorem IA':(Tryz.prog.info? 41).map (fun i=>(i.zero,i.size,i.bytes))=some (some (.agg #[.bool false,.slice none 0 0,.slice none 0 0,.bool false,.slice none 0 0,.slice none 0 0]),6,112):=by kernel_rfl
end Go.Proofs.YtbigkkjnhcpgiaaGreatDoor.Rf
