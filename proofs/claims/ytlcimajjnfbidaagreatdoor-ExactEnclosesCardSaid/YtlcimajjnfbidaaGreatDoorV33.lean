/-
  Contracts of the functions that the law calls, for every input (Val Pk Pl LawC FdP).
-/
import Derived.Test.YtlcimajjnfbidaaGreatDoorV00
import Derived.Test.YtlcimajjnfbidaaGreatDoorV30
import Derived.Test.YtlcimajjnfbidaaGreatDoorV32
import Derived.Test.YtlcimajjnfbidaaGreatDoorV12
import Derived.Test.YtlcimajjnfbidaaGreatDoorV23
import Derived.OwnWalk
import Derived.Test.YtlcimajjnfbidaaGreatDoorV22
set_option linter.all false
set_option maxRecDepth 100000
set_option maxHeartbeats 40000000
namespace Go.Proofs.YtlcimajjnfbidaaGreatDoor
open Lib (hid)
open Go.RowKit
open Vx
theorem lo_val {w:World} {v:Value} {a b:Rat} (hv:IsBox w v a b) (hs:siz a≤536870912) :
   Calls Tryz.prog 51 #[v] w (NumRet w a):=boxLo_any hv (Nat.le_trans hs (by omega))
theorem hi_val {w:World} {v:Value} {a b:Rat} (hv:IsBox w v a b) (hs:siz b≤536870912) :
   Calls Tryz.prog 52 #[v] w (NumRet w b):=boxHi_any hv (Nat.le_trans hs (by omega))
theorem width_val {w:World} {v:Value} {a b q:Rat} (hq:b - a=q) (hv:IsBox w v a b) (sa:siz a≤536870912) (sb:siz b≤536870912) :
   Calls Tryz.prog 82 #[v] w (NumRet w q):=by
 rw [←hq];exact boxWidth_any hv (Nat.le_trans sa (by omega)) (Nat.le_trans sb (by omega))
theorem point_val {w:World} {vx:Value} {x:Rat} (hx:IsNum w vx x) (hs:siz x≤536870912) :
   Calls Tryz.prog 47 #[vx] w (BoxRet w x x):=point_any hx (Nat.le_trans hs (by omega))
theorem Stay.box {wS w:World} {v:Value} {a b:Rat} (h:Stay wS w) (hv:IsBox wS v a b):IsBox w v a b:=by
 obtain ⟨v1,v2,v3,v4,e,h1,h2,h3,h4⟩:=hv
 exact ⟨v1,v2,v3,v4,e,h _ _ h1,h _ _ h2,h _ _ h3,h _ _ h4⟩
theorem Held0.put3 {wB wS w:World} {N b:Nat} {p r:Pt} (h:Held0 wB N wS w) (L:Loc w b p) (hle:N≤b):Held0 wB N wS (Go.Proofs.YtlcimajjnfbidaaGreatDoor.put3 w b r):=by
 have k0:Kept 3 31 w b w:=Kept.start rfl (plain3 _ _ _ _ _ _ _) L
 have k1:=k0.set (i:=0) (bool_plain r.s)
 have k2:=k1.set (i:=1) (slice_plain r.A1 r.n1 r.c1)
 have hB:Below N wB (Go.Proofs.YtlcimajjnfbidaaGreatDoor.put3 w b r):=((h.2.1.setCell (p:=⟨b,0,none⟩) hle _).setCell (p:=⟨b,1,none⟩) hle _).setCell (p:=⟨b,2,none⟩) hle _
 exact ⟨below_cell hB,hB,((h.2.2.put k0).put k1).put k2⟩
theorem letters {F:Nat→Array Bool→Act→World→Prop} {n:Nat} {L:Array Bool} {A:Act} {w:World} (h:∀ A0,A=A0→F n L A0 w):F n L A w:=h _ rfl
end Go.Proofs.YtlcimajjnfbidaaGreatDoor
namespace Go.Proofs.YtlcimajjnfbidaaGreatDoor
open Lib (hid)
open Go.RowKit
open Vx
open List renaming getElem?_toArray → lg, getElem?_cons_zero → lz, getElem?_cons_succ → ls, setIfInBounds_toArray → lt, set_cons_zero → ly, set_cons_succ → lu
open Rf (stored3 stored6 alloc_below newz1 newb1)
theorem box_of_nums {w:World} {s1 s2:Bool} {A1 A2 A3 A4:Option Addr} {n1 c1 n2 c2 n3 c3 n4 c4:Nat} {p q:Rat} (h1:IsNum w (.agg #[.bool s1,.slice A1 n1 c1,.slice A2 n2 c2]) p) (h2:IsNum w (.agg #[.bool s2,.slice A3 n3 c3,.slice A4 n4 c4]) q) :
   IsBox w (.agg #[.bool s1,.slice A1 n1 c1,.slice A2 n2 c2,.bool s2,.slice A3 n3 c3,.slice A4 n4 c4]) p q:=by
 obtain ⟨u1,u2,e1,h3,h4⟩:=h1
 obtain ⟨u3,u4,e2,h5,h6⟩:=h2
 simp only [Value.agg.injEq,Array.mk.injEq,List.cons.injEq,Value.bool.injEq,and_true] at e1 e2
 obtain ⟨rfl,rfl,rfl⟩:=e1
 obtain ⟨rfl,rfl,rfl⟩:=e2
 exact ⟨_,_,_,_,rfl,h3,h4,h5,h6⟩
def PartsAt (W:World) (Bp:Nat) (a b:Rat) (n i:Nat):Prop:=∀ j,j<i→∃ s1 A1 n1 c1 A2 n2 c2 s2 A3 n3 c3 A4 n4 c4,W.cell? ⟨Bp,j*6,none⟩=some (.bool s1)∧W.cell? ⟨Bp,j*6+1,none⟩=some (.slice A1 n1 c1)∧W.cell? ⟨Bp,j*6+2,none⟩=some (.slice A2 n2 c2) ∧
  W.cell? ⟨Bp,j*6+3,none⟩=some (.bool s2)∧W.cell? ⟨Bp,j*6+4,none⟩=some (.slice A3 n3 c3)∧W.cell? ⟨Bp,j*6+5,none⟩=some (.slice A4 n4 c4)∧IsBox W (.agg #[.bool s1,.slice A1 n1 c1,.slice A2 n2 c2,.bool s2,.slice A3 n3 c3,.slice A4 n4 c4]) (cutQ a b n j) (cutQ a b n (j+1))
theorem PartsAt.keep {W V:World} {Bp:Nat} {a b:Rat} {n i:Nat} (h:PartsAt W Bp a b n i) (hb:Below W.heap.size W V):PartsAt V Bp a b n i:=by
 intro j hj
 obtain ⟨s1,A1,n1,c1,A2,n2,c2,s2,A3,n3,c3,A4,n4,c4,z0,z1,z2,z3,z4,z5,hx⟩:=h j hj
 have hl:=World.block_lt_of_cell? W _ z0
 exact ⟨_,_,_,_,_,_,_,_,_,_,_,_,_,_,(hb.cell (p:=⟨Bp,j*6,none⟩) hl).trans z0,(hb.cell (p:=⟨Bp,j*6+1,none⟩) hl).trans z1,(hb.cell (p:=⟨Bp,j*6+2,none⟩) hl).trans z2,(hb.cell (p:=⟨Bp,j*6+3,none⟩) hl).trans z3,(hb.cell (p:=⟨Bp,j*6+4,none⟩) hl).trans z4,(hb.cell (p:=⟨Bp,j*6+5,none⟩) hl).trans z5,hx.keep hb⟩
theorem parts1_to {w:World} {m:Int} {bb bw i:Nat} {a b d x:Rat} {P1 P2 P3 P4 P5 P6:Option Addr} {r1 r2 r3 r4 r5 r6:Nat} (hm:((i:Nat):Int)=m) (hx:a+d*(((i:Nat):Int):Rat)=x) (hbx:w.heap[bb]?=some (.cells #[.bool (decide (a.num<0)),.slice P1 (len a.num.natAbs) r1,.slice P2 (len (below a.den)) r2,.bool (decide (b.num<0)),.slice P3 (len b.num.natAbs) r3,.slice P4 (len (below b.den)) r4] 48 (0,0))) (hva:IsNum w (.agg #[.bool (decide (a.num<0)),.slice P1 (len a.num.natAbs) r1,.slice P2 (len (below a.den)) r2]) a) (hwd:w.heap[bw]?=some (.cells #[.bool (decide (d.num<0)),.slice P5 (len d.num.natAbs) r5,.slice P6 (len (below d.den)) r6] 31 (0,0))) (hvw:IsNum w (.agg #[.bool (decide (d.num<0)),.slice P5 (len d.num.natAbs) r5,.slice P6 (len (below d.den)) r6]) d) (hi:i≤1000) (sa:siz a≤1000000) (sd:siz d≤1000000) :
   Calls Tryz.prog 83 #[.int .i64 m,.pointer (some ⟨bb,0,none⟩),.pointer (some ⟨bw,0,none⟩)] w (NumRet w x):=by
 rw [←hm]
 exact parts1_any hx hbx hva hwd hvw hi sa sd
theorem over_val9 {w:World} {vx vy:Value} {x y q:Rat} (hq:x / y=q) (hx:IsNum w vx x) (hy:IsNum w vy y) (hs:siz x≤34359738368) (ht:siz y≤34359738368):Calls Tryz.prog 80 #[vx,vy] w (NumRet w q):=by rw [←hq];exact numOver_any hx hy hs ht
theorem infoBox:(Tryz.prog.info? 48).map (fun i=>(i.zero,i.size,i.bytes))=some (some (.agg #[.bool false,.slice none 0 0,.slice none 0 0,.bool false,.slice none 0 0,.slice none 0 0]),6,112):=by kernel_rfl
theorem made_ni {n:Nat}:∀ (i:Nat) (k:IntKind) (m:Int),(madeCells (#[.bool false,.slice none 0 0,.slice none 0 0,.bool false,.slice none 0 0,.slice none 0 0]:Array Value) n)[i]?≠some (.int k m):=by
 intro i k m h
 have hm:=Array.mem_of_getElem? h
 simp only [madeCells,Array.mem_map,Array.mem_range] at hm
 obtain ⟨j,-,hj⟩:=hm
 have hlt:j%6<6:=Nat.mod_lt _ (by omega)
 generalize j%6=r at hj hlt
 match r,hlt with
 | 0,_=>simp at hj
 | 1,_=>simp at hj
 | 2,_=>simp at hj
 | 3,_=>simp at hj
 | 4,_=>simp at hj
 | 5,_=>simp at hj
structure PartsTo (w:World) (Bp b0 bw n k:Nat) (a b d:Rat) (P1 P2 P3 P4 P5 P6:Option Addr) (r1 r2 r3 r4 r5 r6:Nat) (W:World):Prop where
  row:∃ cs,W.heap[Bp]?=some (.cells cs 48 (0,0))∧cs.size=n*6∧∀ (i:Nat) (k:IntKind) (m:Int),cs[i]?≠some (.int k m)
  pts:PartsAt W Bp a b n k
  bx:W.heap[b0]?=some (.cells #[.bool (decide (a.num<0)),.slice P1 (len a.num.natAbs) r1,.slice P2 (len (below a.den)) r2,.bool (decide (b.num<0)),.slice P3 (len b.num.natAbs) r3,.slice P4 (len (below b.den)) r4] 48 (0,0))
  wd:W.heap[bw]?=some (.cells #[.bool (decide (d.num<0)),.slice P5 (len d.num.natAbs) r5,.slice P6 (len (below d.den)) r6] 31 (0,0))
  va:IsNum W (.agg #[.bool (decide (a.num<0)),.slice P1 (len a.num.natAbs) r1,.slice P2 (len (below a.den)) r2]) a
  vw:IsNum W (.agg #[.bool (decide (d.num<0)),.slice P5 (len d.num.natAbs) r5,.slice P6 (len (below d.den)) r6]) d
  be:Below w.heap.size w W
theorem boxParts_any {w:World} {vb:Value} {a b:Rat} {n:Nat} (hv:IsBox w vb a b) (hn1:1≤n) (hn2:n≤256) (sa:siz a≤100000) (sb:siz b≤100000) :
   Calls Tryz.prog 37 #[vb,.int .i64 ((n:Nat):Int)] w (fun e w'=>∃ Bp,e=.returned (.tuple #[.slice (some ⟨Bp,0,none⟩) n n,.int .i64 0])∧PartsAt w' Bp a b n n∧Below w.heap.size w w'):=by
 obtain ⟨c,ec⟩:=eY (b - a)
 obtain ⟨k,ek⟩:=eY ((((n:Nat):Int):Rat))
 obtain ⟨d,ed⟩:=eY (c / k)
 have sk:siz k≤2:=by rw [←ek];exact nat_siz (by omega)
 have sc:siz c≤200001:=by rw [←ec];have:=siz_sub b a;omega
 have sd:siz d≤1000000:=by rw [←ed];have:=siz_div c k;omega
 have hcut:∀ i:Nat,cutQ a b n i=a+d*(((i:Nat):Int):Rat):=by
   intro i
   unfold cutQ
   rw [←ed,←ec,←ek,Rat.intCast_natCast,Rat.intCast_natCast]
 have sa9:siz a≤1000000:=by omega
 have sa5:siz a≤536870912:=by omega
 have sb5:siz b≤536870912:=by omega
 have sc5:siz c≤34359738368:=by omega
 have sk5:siz k≤34359738368:=by omega
 have hi1:(-9223372036854775808:Int)≤((n:Nat):Int):=by omega
 have hi2:((n:Nat):Int)≤9223372036854775807:=by omega
 have d1:decide (((n:Nat):Int)<1)=false:=decide_eq_false (by omega)
 have d2:decide (((n:Nat):Int)>256)=false:=decide_eq_false (by omega)
 have d1':¬ ((n:Nat):Int)<1:=by omega
 have d2':¬ ((n:Nat):Int)>256:=by omega
 clear sa sb sc sk
 replace ec:=hid ec
 replace ek:=hid ek
 replace ed:=hid ed
 replace hcut:=hid hcut
 obtain ⟨P1,r1,P2,r2,P3,r3,P4,r4,rfl,hva,-⟩:=id hv.opened
 replace hv:=hid hv
 replace hva:=hid hva
 obtain ⟨w1,hw1⟩:=eX (w.alloc (.cells #[.bool (decide (a.num<0)),.slice P1 (len a.num.natAbs) r1,.slice P2 (len (below a.den)) r2,.bool (decide (b.num<0)),.slice P3 (len b.num.natAbs) r3,.slice P4 (len (below b.den)) r4] 48))
 have b1:=hid (newb1 hw1)
 have L1:=hid (newz1 hw1)
 obtain ⟨z0,z1,z2,z3,z4,z5⟩:=cells6 L1.out
 go_enter Tryz.func37,Tryz.ntmps37
 go_upto_region 1 with fail
 rw [←hw1]
 clear hw1
 go_upto_region 3 with fail
 have HX:=hid (width_val ec.out (hv.out.keep b1.out) sa5 sb5)
 go_wp2_with fail
 refine (HX.out).mono ?_
 rintro e w2 ⟨v2,rfl,hv2,b2⟩
 obtain ⟨C1,j1,C2,j2,rfl,-,-⟩:=id hv2.opened
 replace hv2:=hid hv2
 replace b2:=hid b2
 clear HX z0 z1 z2 z3 z4 z5
 have HX:=hid (whole_val (w:=w2) hi1 hi2 ek.out)
 go_wp2_with fail
 refine (HX.out).mono ?_
 rintro e w3 ⟨v3,rfl,hv3,b3⟩
 obtain ⟨C3,j3,C4,j4,rfl,-,-⟩:=id hv3.opened
 replace hv3:=hid hv3
 replace b3:=hid b3
 clear HX
 have HX:=hid (over_val9 ed.out (hv2.out.keep b3.out) hv3.out sc5 sk5)
 go_wp2_with fail
 refine (HX.out).mono ?_
 rintro e w4 ⟨v4,rfl,hv4,b4⟩
 obtain ⟨C5,j5,C6,j6,rfl,-,-⟩:=id hv4.opened
 replace hv4:=hid hv4
 replace b4:=hid b4
 clear HX
 go_upto_region 5 with fail
 obtain ⟨w5,hw5⟩:=eX (w4.alloc (.cells #[.bool (decide (d.num<0)),.slice C5 (Vx.len d.num.natAbs) j5,.slice C6 (Vx.len (below d.den)) j6] 31))
 have b5:=hid (newb1 hw5)
 have L5:=hid (newz1 hw5)
 rw [←hw5]
 clear hw5
 have y0_5:=hid (Below.step (Below.step (Below.step (Below.step b1.out b2.out) b3.out) b4.out) b5.out)
 have y1_5:=hid (Below.step (Below.step (Below.step b2.out b3.out) b4.out) b5.out)
 obtain ⟨b0,hb0⟩:=eY w.heap.size
 obtain ⟨bw,hbw⟩:=eY w4.heap.size
 have hBB:=hid y0_5.out
 have R1:=hid (at_keep L1.out y1_5.out)
 have R2':=L5.out
 rw [hbw] at R2'
 have R2:=hid R2'
 clear R2'
 have V1:=hid (hva.out.keep y0_5.out)
 have V2:=hid (hv4.out.keep b5.out)
 have h01:b0<w5.heap.size:=by rw [←hb0];exact at_lt R1.out
 have h02:bw<w5.heap.size:=at_lt R2.out
 rw [hbw]
 clear hbw
 obtain ⟨i0,hi0,hz0,hz1,hz2⟩:=info_parts infoBox
 replace hi0:=hid hi0
 replace hz0:=hid hz0
 replace hz1:=hid hz1
 replace hz2:=hid hz2
 go_wp2_with (at_make;refine wpList_make_full _ rfl _ _ _ rfl w5.heap.size 48 i0 _ 6 Tryz.underlying69 hi0.out hz0.out hz1.out _ _ _ _ n rfl rfl rfl rfl (by rw [hz2.out];omega) (by unfold maxLen;omega) (Nat.le_refl _) ?_;intro v1 hown hgr)
 obtain ⟨Bp,hBp⟩:=eY w5.heap.size
 have hB9:Below w5.heap.size w5 v1:=⟨hgr.os,hgr.tape,hgr.output,hgr.size,fun k hk=>hgr.block k hk (by simp)⟩
 have HR:Hid (PartsTo w Bp b0 bw n 0 a b d P1 P2 P3 P4 C5 C6 r1 r2 r3 r4 j5 j6 v1):=by
   obtain ⟨hl,h0 | ⟨g,cap,cur,hv9,-,hg,-,-,hcs,htk⟩⟩:=hown
   · have:=h0.2;omega
   · injection hv9 with e1 e2 e3
     injection e1 with e1
     injection e1 with e1
     subst e3
     rw [←hBp,e1]
     refine hid ⟨⟨cur,hg,hcs,fun i k m h=>?_⟩,fun j hj=>absurd hj (Nat.not_lt_zero _),by rw [←hb0];exact at_keep R1.out hB9,at_keep R2.out hB9,V1.out.keep hB9,V2.out.keep hB9,chain hBB.out hB9⟩
     have hi9:i<n*6:=by rw [←hcs];exact (Array.getElem?_eq_some_iff.1 h).1
     rw [←Array.getElem?_toList] at h
     have h2:(cur.toList.take (n*6))[i]?=some (.int k m):=by rw [List.getElem?_take_of_lt hi9];exact h
     rw [htk,Array.getElem?_toList] at h2
     exact made_ni i k m h2
 have hne1:b0<Bp:=by rw [←hBp];exact h01
 have hne2:bw<Bp:=by rw [←hBp];exact h02
 have hne3:w.heap.size≤Bp:=by omega
 rw [hBp]
 clear hown hgr hB9 hBp R1 R2 V1 V2 hBB b1 b2 b3 b4 b5 L1 hv hva hv4 hv2 hv3 L5 h01 h02 hi0 hz0 hz1 hz2
 try rw [hb0]
 go_wp2_with fail
 go_loopw [26] (fun iv wr=>∃ k:Nat,k≤n∧iv=.int .i64 ((k:Nat):Int)∧Hid (PartsTo w Bp b0 bw n k a b d P1 P2 P3 P4 C5 C6 r1 r2 r3 r4 j5 j6 wr)) (fun iv _=>n - (intOf iv).toNat)
 case atStart=>exact ⟨0,Nat.zero_le _,rfl,HR⟩
 case round =>
   obtain ⟨j,hj,rfl,hrel⟩:=hrel
   clear HR
   rcases Nat.lt_or_ge j n with hjn | hjn
   · have hin:decide (j<n)=true:=decide_eq_true hjn
     obtain ⟨x,ex⟩:=eY (cutQ a b n j)
     obtain ⟨y,ey⟩:=eY (cutQ a b n (j+1))
     have e1:=hid ((hcut.out j).symm.trans ex)
     have e2:=hid ((hcut.out (j+1)).symm.trans ey)
     replace ex:=hid ex
     replace ey:=hid ey
     have hj1:Hid (((j+1:Nat):Int)=((j:Nat):Int)+1):=hid (by omega)
     have hj2:Hid (j≤1000):=hid (by omega)
     have hj3:Hid (j+1≤1000):=hid (by omega)
     have hT:=hrel
     have HX:=hid (parts1_to rfl e1.out hT.out.bx hT.out.va hT.out.wd hT.out.vw hj2.out sa9 sd)
     go_wp2_with fail
     refine (HX.out).mono ?_
     rintro e w91 ⟨v91,rfl,hv91,b91⟩
     obtain ⟨C1,j1,C2,j2,rfl,-,-⟩:=id hv91.opened
     replace hv91:=hid hv91
     replace b91:=hid b91
     clear HX
     have HX:=hid (parts1_to hj1.out e2.out (at_keep hT.out.bx b91.out) (hT.out.va.keep b91.out) (at_keep hT.out.wd b91.out) (hT.out.vw.keep b91.out) hj3.out sa9 sd)
     go_wp2_with fail
     refine (HX.out).mono ?_
     rintro e w92 ⟨v92,rfl,hv92,b92⟩
     obtain ⟨C3,j3,C4,j4,rfl,-,-⟩:=id hv92.opened
     replace hv92:=hid hv92
     replace b92:=hid b92
     clear HX
     have kb:=hid (Below.step b91.out b92.out)
     obtain ⟨cs,hrow,hcs,hni⟩:=hT.out.row
     have hr2:=at_keep hrow kb.out
     obtain ⟨u,hu⟩:=eY (j*6)
     have hu5:u+5<cs.size:=by omega
     obtain ⟨q0,eq0⟩:∃ z,cs[u+0]?=some z:=⟨cs[u+0],by simp⟩
     have f0:=frozen_of_row w92 Bp (u+0) _ _ hr2
     have k0:w92.cell? ⟨Bp,u+0,none⟩=some q0:=(cell_of_row _ _ _ _ _ _ hr2).trans eq0
     obtain ⟨q1,eq1⟩:∃ z,cs[u+1]?=some z:=⟨cs[u+1],by simp⟩
     have f1:=frozen_of_row w92 Bp (u+1) _ _ hr2
     have k1:w92.cell? ⟨Bp,u+1,none⟩=some q1:=(cell_of_row _ _ _ _ _ _ hr2).trans eq1
     obtain ⟨q2,eq2⟩:∃ z,cs[u+2]?=some z:=⟨cs[u+2],by simp⟩
     have f2:=frozen_of_row w92 Bp (u+2) _ _ hr2
     have k2:w92.cell? ⟨Bp,u+2,none⟩=some q2:=(cell_of_row _ _ _ _ _ _ hr2).trans eq2
     obtain ⟨q3,eq3⟩:∃ z,cs[u+3]?=some z:=⟨cs[u+3],by simp⟩
     have f3:=frozen_of_row w92 Bp (u+3) _ _ hr2
     have k3:w92.cell? ⟨Bp,u+3,none⟩=some q3:=(cell_of_row _ _ _ _ _ _ hr2).trans eq3
     obtain ⟨q4,eq4⟩:∃ z,cs[u+4]?=some z:=⟨cs[u+4],by simp⟩
     have f4:=frozen_of_row w92 Bp (u+4) _ _ hr2
     have k4:w92.cell? ⟨Bp,u+4,none⟩=some q4:=(cell_of_row _ _ _ _ _ _ hr2).trans eq4
     obtain ⟨q5,eq5⟩:∃ z,cs[u+5]?=some z:=⟨cs[u+5],by simp⟩
     have f5:=frozen_of_row w92 Bp (u+5) _ _ hr2
     have k5:w92.cell? ⟨Bp,u+5,none⟩=some q5:=(cell_of_row _ _ _ _ _ _ hr2).trans eq5
     rw [Nat.add_zero] at k0 f0
     obtain ⟨ue,hw⟩:=eX (((((((w92.setCell ⟨Bp,u,none⟩ (.bool (decide (x.num<0)))).setCell ⟨Bp,u+1,none⟩ (.slice C1 (len x.num.natAbs) j1)).setCell ⟨Bp,u+2,none⟩ (.slice C2 (len (below x.den)) j2)).setCell ⟨Bp,u+3,none⟩ (.bool (decide (y.num<0)))).setCell ⟨Bp,u+4,none⟩ (.slice C3 (len y.num.natAbs) j3)).setCell ⟨Bp,u+5,none⟩ (.slice C4 (len (below y.den)) j4)))
     obtain ⟨cs',hr3,hsz,hold,⟨n0,n1,n2,n3,n4,n5⟩,OT,hs9,BL⟩:=store6_at hr2 hu5 hw
     have hle:w92.heap.size≤ue.heap.size:=Nat.le_of_eq hs9.symm
     have FIN:Hid (PartsTo w Bp b0 bw n (j+1) a b d P1 P2 P3 P4 C5 C6 r1 r2 r3 r4 j5 j6 ue):=by
       refine hid ⟨⟨cs',hr3,by rw [hsz,hcs],fun i k m h=>?_⟩,fun t ht=>?_,OT _ _ (by omega) (at_keep hT.out.bx kb.out),OT _ _ (by omega) (at_keep hT.out.wd kb.out),num_stored hle hr2 hni OT (hT.out.va.keep kb.out),num_stored hle hr2 hni OT (hT.out.vw.keep kb.out),BL _ _ hne3 (chain hT.out.be kb.out)⟩
       · rcases Decidable.em (i<u∨u+5<i) with h9 | h9
         · rw [hold i h9] at h;exact hni i k m h
         · have h8:i=u∨i=u+1∨i=u+2∨i=u+3∨i=u+4∨i=u+5:=by omega
           rcases h8 with rfl | rfl | rfl | rfl | rfl | rfl
           · rw [n0] at h;simp at h
           · rw [n1] at h;simp at h
           · rw [n2] at h;simp at h
           · rw [n3] at h;simp at h
           · rw [n4] at h;simp at h
           · rw [n5] at h;simp at h
       · rcases Nat.lt_or_ge t j with h9 | h9
         · obtain ⟨s1,A1,m1,c1,A2,m2,c2,s2,A3,m3,c3,A4,m4,c4,z0,z1,z2,z3,z4,z5,hx⟩:=(hT.out.pts.keep kb.out) t h9
           rw [cell_of_row _ _ _ _ _ _ hr2] at z0 z1 z2 z3 z4 z5
           exact ⟨_,_,_,_,_,_,_,_,_,_,_,_,_,_,(cell_of_row _ _ _ _ _ _ hr3).trans ((hold _ (by omega)).trans z0),(cell_of_row _ _ _ _ _ _ hr3).trans ((hold _ (by omega)).trans z1),(cell_of_row _ _ _ _ _ _ hr3).trans ((hold _ (by omega)).trans z2),(cell_of_row _ _ _ _ _ _ hr3).trans ((hold _ (by omega)).trans z3),(cell_of_row _ _ _ _ _ _ hr3).trans ((hold _ (by omega)).trans z4),(cell_of_row _ _ _ _ _ _ hr3).trans ((hold _ (by omega)).trans z5),box_stored hle hr2 hni OT hx⟩
         · obtain rfl:t=j:=by omega
           rw [hu]
           refine ⟨_,_,_,_,_,_,_,_,_,_,_,_,_,_,(cell_of_row _ _ _ _ _ _ hr3).trans n0,(cell_of_row _ _ _ _ _ _ hr3).trans n1,(cell_of_row _ _ _ _ _ _ hr3).trans n2,(cell_of_row _ _ _ _ _ _ hr3).trans n3,(cell_of_row _ _ _ _ _ _ hr3).trans n4,(cell_of_row _ _ _ _ _ _ hr3).trans n5,?_⟩
           rw [ex.out,ey.out]
           exact box_stored hle hr2 hni OT (box_of_nums (hv91.out.keep b92.out) hv92.out)
     clear hr2 hr3 hsz hold n0 n1 n2 n3 n4 n5 OT hs9 BL hle hrow hni hT hrel kb b91 b92 hv91 hv92 eq0 eq1 eq2 eq3 eq4 eq5 hcs hu5
     replace hw:=hid hw
     go_wp2_with fail
     rw [←hw.out]
     clear hw k0 k1 k2 k3 k4 k5 f0 f1 f2 f3 f4 f5
     go_roundw
     case rel=>exact ⟨j+1,hjn,by go_num,FIN⟩
     case measure=>simp [intOf];omega
   · obtain rfl:j=n:=Nat.le_antisymm hj hjn
     have hin:decide (j<j)=false:=decide_eq_false (Nat.lt_irrefl _)
     have HP:=hid hrel.out.pts
     have HB:=hid hrel.out.be
     clear hrel
     go_wp2_with fail
     go_ret2
     exact ⟨Bp,rfl,HP.out,HB.out⟩
end Go.Proofs.YtlcimajjnfbidaaGreatDoor
namespace Go.Proofs.YtlcimajjnfbidaaGreatDoor
open Lib (hid)
open Go.RowKit
open Vx
open List renaming getElem?_toArray → lg, getElem?_cons_zero → lz, getElem?_cons_succ → ls, setIfInBounds_toArray → lt, set_cons_zero → ly, set_cons_succ → lu
open Rf (stored3 stored6 alloc_below newz1 newb1 Live region_late late_do idle)
theorem hornB_siz {p:Rat × Rat} {M:Nat} (h3:siz p.1≤M) (h4:siz p.2≤M):∀ (l:List Rat),(∀ y∈l,siz y≤M)→siz (hornB p l).1≤3+l.length*(M+M+1)∧siz (hornB p l).2≤3+l.length*(M+M+1):=by
 intro l
 induction l with
 | nil =>
   intro _
   have h0:siz (0:Rat)≤3:=by decide +kernel
   simp only [List.length_nil,Nat.zero_mul]
   exact ⟨h0,h0⟩
 | cons c l ih =>
   intro hc
   obtain ⟨i1,i2⟩:=ih (fun y hy=>hc y (by simp [hy]))
   obtain ⟨k1,k2⟩:=step_siz i1 i2 h3 h4 (hc c (by simp))
   simp only [List.length_cons,Nat.succ_mul]
   show siz (stepB (hornB p l) p c).1≤_∧siz (stepB (hornB p l) p c).2≤_
   omega
theorem cut_siz {a b:Rat} {n i:Nat} (ha:siz a≤20000) (hb:siz b≤20000) (hn:n≤1000) (hi:i≤1000):siz (cutQ a b n i)≤100000:=by
 unfold cutQ
 have e1:siz ((n:Nat):Rat)≤2:=by have:=nat_siz hn;rwa [Rat.intCast_natCast] at this
 have e2:siz ((i:Nat):Rat)≤2:=by have:=nat_siz hi;rwa [Rat.intCast_natCast] at this
 have k1:=siz_sub b a
 have k2:=siz_div (b - a) ((n:Nat):Rat)
 have k3:=siz_mul ((b - a) / ((n:Nat):Rat)) ((i:Nat):Rat)
 have k4:=siz_add a ((b - a) / ((n:Nat):Rat)*((i:Nat):Rat))
 omega
theorem polyTo_siz {f:Nat→Rat × Rat} {N k:Nat} (h:∀ i,i≤k→siz (f i).1≤N∧siz (f i).2≤N):siz (polyTo f k).1≤N∧siz (polyTo f k).2≤N:=by
 induction k with
 | zero=>exact h 0 (Nat.le_refl _)
 | succ k ih =>
   obtain ⟨i1,i2⟩:=ih (fun i hi=>h i (by omega))
   obtain ⟨j1,j2⟩:=h (k+1) (Nat.le_refl _)
   have hm:∀ (x:Rat),x=(polyTo f k).1∨x=(polyTo f k).2→∀ y∈[(polyTo f k).2,(f (k+1)).1,(f (k+1)).2],siz y≤N:=by
     intro x _ y hy
     simp only [List.mem_cons,List.not_mem_nil,or_false] at hy
     rcases hy with rfl | rfl | rfl <;> assumption
   have k1:=leastOf_siz i1 (hm _ (Or.inl rfl)) 3
   have k2:=greatestOf_siz i1 (hm _ (Or.inl rfl)) 3
   simp only [List.take_succ_cons,List.take_zero] at k1 k2
   exact ⟨k1,k2⟩
theorem PartsAt.stay {W V:World} {Bp B:Nat} {a b:Rat} {n i:Nat} (h:PartsAt W Bp a b n i) (hne:Bp≠B) (hO:∀ (n:Nat) (x:Obj),n≠B→W.heap[n]?=some x→V.heap[n]?=some x) (hL:Live W V):PartsAt V Bp a b n i:=by
 intro j hj
 obtain ⟨s1,A1,n1,c1,A2,n2,c2,s2,A3,n3,c3,A4,n4,c4,z0,z1,z2,z3,z4,z5,hx⟩:=h j hj
 have hl:=World.block_lt_of_cell? W _ z0
 have he:V.heap[Bp]?=W.heap[Bp]?:=by
   have:W.heap[Bp]?=some W.heap[Bp]:=by simp [hl]
   rw [hO Bp _ hne this,this]
 exact ⟨_,_,_,_,_,_,_,_,_,_,_,_,_,_,(World.cell?_of_block he).trans z0,(World.cell?_of_block he).trans z1,(World.cell?_of_block he).trans z2,(World.cell?_of_block he).trans z3,(World.cell?_of_block he).trans z4,(World.cell?_of_block he).trans z5,hL.box hx⟩
theorem NumsV.keep {w V:World} {A:Option Addr} {n:Nat} {vals:Nat→Value} {cf:Nat→Rat} (h:NumsV w A n vals cf) (hb:Below w.heap.size w V):NumsV V A n vals cf:=⟨h.1.keep hb,fun j hj=>(h.2 j hj).keep hb⟩
theorem hull_to {w:World} {v u:Value} {a b c d x y:Rat} (hx:leastOf a [b,c,d]=x) (hy:greatestOf a [b,c,d]=y) (hv:IsBox w v a b) (hu:IsBox w u c d) (sa:siz a≤34359738368) (sb:siz b≤34359738368) (sc:siz c≤34359738368) (sd:siz d≤34359738368) :
   Calls Tryz.prog 27 #[v,u] w (BoxRet w x y):=by
 rw [←hx,←hy]
 exact boxHull_any hv hu sa sb sc sd
def PolyAt (w:World) (b10 Bp:Nat) (a b:Rat) (m:Nat) (l:List Rat) (k:Nat) (W:World):Prop :=
  (∃ s1 A1 n1 c1 A2 n2 c2 s2 A3 n3 c3 A4 n4 c4,W.heap[b10]?=some (.cells #[.bool s1,.slice A1 n1 c1,.slice A2 n2 c2,.bool s2,.slice A3 n3 c3,.slice A4 n4 c4] 48 (0,0))∧IsBox W (.agg #[.bool s1,.slice A1 n1 c1,.slice A2 n2 c2,.bool s2,.slice A3 n3 c3,.slice A4 n4 c4]) (polyTo (partB a b m l) k).1 (polyTo (partB a b m l) k).2) ∧
    PartsAt W Bp a b m m∧W.heap[w.heap.size+1]?=some (.cells #[.bool false,.slice none 0 0,.slice none 0 0,.bool false,.slice none 0 0,.slice none 0 0] 48 (0,0))∧Below w.heap.size w W∧w.heap.size+1<b10∧Bp≠b10
theorem hor_to {P:Program} {f:Nat} {ar:Array Value} {w:World} {p q x y:Rat} (e1:p=x) (e2:q=y) (h:Calls P f ar w (BoxRet w p q)):Calls P f ar w (BoxRet w x y):=e1 ▸ e2 ▸ h
theorem poly_any {w:World} {A:Option Addr} {n cap m:Nat} {vals:Nat→Value} {cf:Nat→Rat} {vb:Value} {a b:Rat} {l:List Rat} {x y:Rat} (hl:NumsV w A n vals cf) (hb:IsBox w vb a b) (eL:l.length=n) (hcf:∀ j,j<n→l[j]?=some (cf j)) (ex:(polyB a b m l).1=x) (ey:(polyB a b m l).2=y) (hn:n≤200) (hm1:1≤m) (hm2:m≤256) (sa:siz a≤20000) (sb:siz b≤20000) (sc:∀ j,j<n→siz (cf j)≤100000) :
   Calls Tryz.prog 38 #[.slice A n cap,vb,.int .i64 ((m:Nat):Int)] w (BoxErrRet w x y 0):=by
 have hsl:∀ y∈l,siz y≤100000:=by
   intro y hy
   obtain ⟨j,hj⟩:=List.mem_iff_getElem?.1 hy
   have hjl:j<n:=by rw [←eL];exact (List.getElem?_eq_some_iff.1 hj).1
   rw [hcf j hjl] at hj
   rw [←Option.some.inj hj]
   exact sc j hjl
 have hF:∀ i,i≤300→siz (partB a b m l i).1≤40000203∧siz (partB a b m l i).2≤40000203:=by
   intro i hi
   have:=hornB_siz (p:=(cutQ a b m i,cutQ a b m (i+1))) (M:=100000) (cut_siz sa sb (by omega) (by omega)) (cut_siz sa sb (by omega) (by omega)) l hsl
   have h2:=Nat.mul_le_mul_right (100000+100000+1) (show l.length≤200 by omega)
   unfold partB
   omega
 have hHR:=hid (fun (W:World) (j:Nat) (v:Value) (c:Nat) (hW:Below w.heap.size w W) (hj:j<m) (hv:IsBox W v (cutQ a b m j) (cutQ a b m (j+1))) =>
   horner_any (w:=W) (cap:=c) (hl.keep hW) hv eL hcf (x:=(partB a b m l j).1) (y:=(partB a b m l j).2) rfl rfl hn (cut_siz sa sb (by omega) (by omega)) (cut_siz sa sb (by omega) (by omega)) sc)
 have d1:decide (((n:Nat):Int)>200)=false:=decide_eq_false (by omega)
 have d1':¬ ((n:Nat):Int)>200:=by omega
 have sa1:siz a≤100000:=by omega
 have sb1:siz b≤100000:=by omega
 clear hsl sc hcf eL sa sb hn
 replace hF:=hid hF
 replace hl:=hid hl
 replace ex:=hid ex
 replace ey:=hid ey
 obtain ⟨P1,r1,P2,r2,P3,r3,P4,r4,rfl,-,-⟩:=id hb.opened
 replace hb:=hid hb
 obtain ⟨w1,hw1⟩:=eX ((w.alloc (.cells #[.bool (decide (a.num<0)),.slice P1 (len a.num.natAbs) r1,.slice P2 (len (below a.den)) r2,.bool (decide (b.num<0)),.slice P3 (len b.num.natAbs) r3,.slice P4 (len (below b.den)) r4] 48)).alloc (.cells #[.bool false,.slice none 0 0,.slice none 0 0,.bool false,.slice none 0 0,.slice none 0 0] 48))
 obtain ⟨b1,g1,g2⟩:=news2' hw1
 replace b1:=hid b1
 replace g2:=hid g2
 obtain ⟨z0,z1,z2,z3,z4,z5⟩:=cells6 g1
 clear g1
 go_enter Tryz.func38,Tryz.ntmps38
 go_upto_region 1 with fail
 rw [←hw1]
 clear hw1
 have HX:=hid (boxParts_any (n:=m) (hb.out.keep b1.out) hm1 hm2 sa1 sb1)
 go_wp2_with fail
 refine (HX.out).mono ?_
 rintro e w2 ⟨Bp,rfl,hP,b2⟩
 replace hP:=hid hP
 replace b2:=hid b2
 clear HX z0 z1 z2 z3 z4 z5
 obtain ⟨s1,A1,n1,c1,A2,n2,c2,s2,A3,n3,c3,A4,n4,c4,z0,z1,z2,z3,z4,z5,hx0⟩:=hP.out 0 (by omega)
 rw [Nat.zero_mul] at z0
 rw [Nat.zero_mul,Nat.zero_add] at z1 z2 z3 z4 z5
 have hm0:decide (0<m)=true:=decide_eq_true (by omega)
 have hm0':(0:Int)<((m:Nat):Int):=by omega
 have b12:=hid (Below.step b1.out b2.out)
 have HX:=hid (hHR.out w2 0 _ cap b12.out (by omega) hx0)
 obtain ⟨x0,ex0⟩:=eY ((partB a b m l 0).1)
 obtain ⟨y0,ey0⟩:=eY ((partB a b m l 0).2)
 rw [ex0,ey0] at HX
 replace ex0:=hid ex0
 replace ey0:=hid ey0
 clear hx0
 go_wp2_with fail
 refine (HX.out).mono ?_
 rintro e w3 ⟨v3,rfl,hv3,b3⟩
 obtain ⟨C41,j41,C42,j42,C43,j43,C44,j44,rfl,-,-,-,-⟩:=id hv3.opened
 replace hv3:=hid hv3
 replace b3:=hid b3
 clear HX z0 z1 z2 z3 z4 z5
 go_upto_region 7 with fail
 obtain ⟨w4,hw4⟩:=eX (w3.alloc (.cells #[.bool (decide (x0.num<0)),.slice C41 (Vx.len x0.num.natAbs) j41,.slice C42 (Vx.len (below x0.den)) j42,.bool (decide (y0.num<0)),.slice C43 (Vx.len y0.num.natAbs) j43,.slice C44 (Vx.len (below y0.den)) j44] 48))
 have b4:=hid (newb1 hw4)
 have L4:=hid (newz1 hw4)
 rw [←hw4]
 clear hw4
 have y2_4:=hid (Below.step b3.out b4.out)
 have y1_4:=hid (Below.step (Below.step b2.out b3.out) b4.out)
 have y0_4:=hid (Below.step (Below.step (Below.step b1.out b2.out) b3.out) b4.out)
 have hBl:Bp<w2.heap.size:=World.block_lt_of_cell? w2 _ (hP.out 0 (by omega)).choose_spec.choose_spec.choose_spec.choose_spec.choose_spec.choose_spec.choose_spec.choose_spec.choose_spec.choose_spec.choose_spec.choose_spec.choose_spec.choose_spec.1
 obtain ⟨b10,h10⟩:=eY w3.heap.size
 have lt1:w.heap.size+1<b10:=by rw [←h10];exact at_lt (at_keep g2.out (Below.step b2.out b3.out))
 have ltP:Bp≠b10:=by rw [←h10];have:=b3.out.size;omega
 have L9:=L4.out
 rw [h10] at L9
 have HE:Hid (PolyAt w b10 Bp a b m l 0 w4):=hid ⟨⟨_,_,_,_,_,_,_,_,_,_,_,_,_,_,L9,by show IsBox _ _ (partB a b m l 0).1 (partB a b m l 0).2;rw [ex0.out,ey0.out];exact (hv3.out.keep b4.out)⟩,hP.out.keep y2_4.out,at_keep g2.out y1_4.out,y0_4.out,lt1,ltP⟩
 rw [h10]
 clear h10 L9 L4 hv3 g2 hP hBl b1 b2 b3 b4 b12 hb ex0 ey0
 have hlm:((m:Nat):Int)≤256:=by omega
 have hlm1:1≤m:=hm1
 go_wp2_with fail
 case inl =>
   subst h
   go_loopw [35] (fun iv wr=>iv=.int .i64 0∧Hid (PolyAt w b10 Bp a b 1 l 0 wr)) (fun _ _=>0)
   case atStart=>exact ⟨rfl,HE⟩
   case round =>
     obtain ⟨rfl,hrel⟩:=hrel
     clear HE
     obtain ⟨⟨s1,A1,n1,c1,A2,n2,c2,s2,A3,n3,c3,A4,n4,c4,g5,hacc⟩,hP,gR,hBW,-,-⟩:=hrel.out
     clear hrel
     obtain ⟨p,hp⟩:=eY ((polyTo (partB a b 1 l) 0).1)
     obtain ⟨q,hq⟩:=eY ((polyTo (partB a b 1 l) 0).2)
     rw [hp,hq] at hacc
     have tp:True:=trivial
     have tq:True:=trivial
     have e1:p=x:=hp.symm.trans ex.out
     have e2:q=y:=hq.symm.trans ey.out
     subst e1 e2
     obtain ⟨z0,z1,z2,z3,z4,z5⟩:=cells6 g5
     have q0:=cell_of_row _ _ 0 _ _ _ gR
     have F0:=frozen_of_row wr (w.heap.size+1) 0 _ _ gR
     have q1:=cell_of_row _ _ 1 _ _ _ gR
     have F1:=frozen_of_row wr (w.heap.size+1) 1 _ _ gR
     have q2:=cell_of_row _ _ 2 _ _ _ gR
     have F2:=frozen_of_row wr (w.heap.size+1) 2 _ _ gR
     have q3:=cell_of_row _ _ 3 _ _ _ gR
     have F3:=frozen_of_row wr (w.heap.size+1) 3 _ _ gR
     have q4:=cell_of_row _ _ 4 _ _ _ gR
     have F4:=frozen_of_row wr (w.heap.size+1) 4 _ _ gR
     have q5:=cell_of_row _ _ 5 _ _ _ gR
     have F5:=frozen_of_row wr (w.heap.size+1) 5 _ _ gR
     simp only [lg,lz,ls] at q0 q1 q2 q3 q4 q5
     obtain ⟨ue,hw⟩:=eX (((((((wr.setCell ⟨(w.heap.size+1),0,none⟩ (.bool s1)).setCell ⟨(w.heap.size+1),1,none⟩ (.slice A1 n1 c1)).setCell ⟨(w.heap.size+1),2,none⟩ (.slice A2 n2 c2)).setCell ⟨(w.heap.size+1),3,none⟩ (.bool s2)).setCell ⟨(w.heap.size+1),4,none⟩ (.slice A3 n3 c3)).setCell ⟨(w.heap.size+1),5,none⟩ (.slice A4 n4 c4)))
     obtain ⟨E,-,LV,BL⟩:=stored6 gR hw
     have FE:=hid (LV.box hacc)
     have FB:=hid (BL _ _ (Nat.le_succ _) hBW)
     replace E:=hid E
     replace hw:=hid hw
     clear hp hq ex ey hP gR hBW g5 BL LV tp tq hacc hHR hF
     go_wp2_with fail
     rw [←hw.out]
     obtain ⟨r0,r1',r2',r3',r4',r5⟩:=cells6 E.out
     refine bodyPost_ret (v:=.tuple #[.agg #[.bool s1,.slice A1 n1 c1,.slice A2 n2 c2,.bool s2,.slice A3 n3 c3,.slice A4 n4 c4],.int .i64 0]) ?_ rfl ⟨_,rfl,FE.out,FB.out⟩
     simp [results,Tryz.results38,go_sem,r0,r1',r2',r3',r4',r5]
 go_loopw [35] (fun iv wr=>∃ k:Nat,k≤m - 1∧iv=.int .i64 ((k:Nat):Int)∧Hid (PolyAt w b10 Bp a b m l k wr)) (fun iv _=>m - 1 - (intOf iv).toNat)
 case atStart=>exact ⟨0,Nat.zero_le _,rfl,HE⟩
 case round =>
   obtain ⟨k,hk,rfl,hrel⟩:=hrel
   clear HE
   obtain ⟨⟨s1,A1,n1,c1,A2,n2,c2,s2,A3,n3,c3,A4,n4,c4,g5,hacc⟩,hP,gR,hBW,-,-⟩:=hrel.out
   clear hrel
   obtain ⟨p,hp⟩:=eY ((polyTo (partB a b m l) k).1)
   obtain ⟨q,hq⟩:=eY ((polyTo (partB a b m l) k).2)
   obtain ⟨tp,tq⟩:=polyTo_siz (f:=partB a b m l) (N:=40000203) (k:=k) (fun i hi=>hF.out i (by omega))
   rw [hp] at hacc tp
   rw [hq] at hacc tq
   rcases Nat.lt_or_ge k (m - 1) with hkn | hkn
   · have hin:decide (k<m - 1)=true:=decide_eq_true hkn
     obtain ⟨s5,A5,n5,c5,A6,n6,c6,s6,A7,n7,c7,A8,n8,c8,y0,y1,y2,y3,y4,y5,hx9⟩:=hP (k+1) (by omega)
     obtain ⟨u,hu⟩:=eY ((k+1)*6)
     have hu':6+k*6=u:=by omega
     rw [hu] at y0 y1 y2 y3 y4 y5
     obtain ⟨fx,hfx⟩:=eY ((partB a b m l (k+1)).1)
     obtain ⟨fy,hfy⟩:=eY ((partB a b m l (k+1)).2)
     obtain ⟨tx,ty⟩:=hF.out (k+1) (by omega)
     rw [hfx] at tx
     rw [hfy] at ty
     obtain ⟨p2,e_p2⟩:=eY (leastOf p [q,fx,fy])
     obtain ⟨q2,e_q2⟩:=eY (greatestOf p [q,fx,fy])
     have hst:polyTo (partB a b m l) (k+1)=(p2,q2):=by
       show hullB (polyTo (partB a b m l) k) (partB a b m l (k+1))=_
       unfold hullB
       rw [hp,hq,hfx,hfy,e_p2,e_q2]
     have tp':siz p≤34359738368:=by omega
     have tq':siz q≤34359738368:=by omega
     have tx':siz fx≤34359738368:=by omega
     have ty':siz fy≤34359738368:=by omega
     have hkm:k+1<m:=by omega
     have hBl:b10<wr.heap.size:=at_lt g5
     clear hp hq tp tq tx ty
     replace hacc:=hid hacc
     replace hx9:=hid hx9
     replace g5:=hid g5
     replace hP:=hid hP
     replace gR:=hid gR
     replace hBW:=hid hBW
     replace hst:=hid hst
     replace e_p2:=hid e_p2
     replace e_q2:=hid e_q2
     replace hfx:=hid hfx
     replace hfy:=hid hfy
     go_upto_region 10 with fail
     obtain ⟨w91,hw91⟩:=eX (wr.alloc (.cells #[.bool s5,.slice A5 n5 c5,.slice A6 n6 c6,.bool s6,.slice A7 n7 c7,.slice A8 n8 c8] 48))
     have b91:=hid (newb1 hw91)
     have L91:=newz1 hw91
     rw [←hw91]
     clear hw91
     obtain ⟨D,hD⟩:=eY wr.heap.size
     have hDl:D<w91.heap.size:=by rw [←hD];exact at_lt L91
     rw [hD] at L91
     obtain ⟨x0,x1,x2,x3,x4,x5⟩:=cells6 L91
     rw [hD]
     clear L91 hD y0 y1 y2 y3 y4 y5 hu hu'
     obtain ⟨q0,q1,q2',q3,q4,q5⟩:=cells6 (at_keep g5.out b91.out)
     replace hBl:=Nat.lt_of_lt_of_le hBl b91.out.size
     go_wp2_with fail
     refine region_late (s:=5) (S:=(fun w'=>(w'.cell? ⟨b10,0,none⟩=w91.cell? ⟨b10,0,none⟩∧w'.cell? ⟨b10,1,none⟩=w91.cell? ⟨b10,1,none⟩∧w'.cell? ⟨b10,2,none⟩=w91.cell? ⟨b10,2,none⟩∧w'.cell? ⟨b10,3,none⟩=w91.cell? ⟨b10,3,none⟩∧w'.cell? ⟨b10,4,none⟩=w91.cell? ⟨b10,4,none⟩∧w'.cell? ⟨b10,5,none⟩=w91.cell? ⟨b10,5,none⟩∧w'.cell? ⟨D,0,none⟩=w91.cell? ⟨D,0,none⟩∧w'.cell? ⟨D,1,none⟩=w91.cell? ⟨D,1,none⟩∧w'.cell? ⟨D,2,none⟩=w91.cell? ⟨D,2,none⟩∧w'.cell? ⟨D,3,none⟩=w91.cell? ⟨D,3,none⟩∧w'.cell? ⟨D,4,none⟩=w91.cell? ⟨D,4,none⟩∧w'.cell? ⟨D,5,none⟩=w91.cell? ⟨D,5,none⟩))) (by kernel_rfl) (by rfl) (by rfl) (by kernel_rfl) ?_
     simp only [idle,lt,ly,lu]
     have hHeld:(fun w'=>(w'.cell? ⟨b10,0,none⟩=w91.cell? ⟨b10,0,none⟩∧w'.cell? ⟨b10,1,none⟩=w91.cell? ⟨b10,1,none⟩∧w'.cell? ⟨b10,2,none⟩=w91.cell? ⟨b10,2,none⟩∧w'.cell? ⟨b10,3,none⟩=w91.cell? ⟨b10,3,none⟩∧w'.cell? ⟨b10,4,none⟩=w91.cell? ⟨b10,4,none⟩∧w'.cell? ⟨b10,5,none⟩=w91.cell? ⟨b10,5,none⟩∧w'.cell? ⟨D,0,none⟩=w91.cell? ⟨D,0,none⟩∧w'.cell? ⟨D,1,none⟩=w91.cell? ⟨D,1,none⟩∧w'.cell? ⟨D,2,none⟩=w91.cell? ⟨D,2,none⟩∧w'.cell? ⟨D,3,none⟩=w91.cell? ⟨D,3,none⟩∧w'.cell? ⟨D,4,none⟩=w91.cell? ⟨D,4,none⟩∧w'.cell? ⟨D,5,none⟩=w91.cell? ⟨D,5,none⟩)) w91:=⟨rfl,rfl,rfl,rfl,rfl,rfl,rfl,rfl,rfl,rfl,rfl,rfl⟩
     obtain ⟨w92,hw92⟩:=eX w91.drew
     have b92:Hid (Below w91.heap.size w91 w92):=hid (by rw [hw92];exact ⟨rfl,rfl,rfl,Nat.le_refl _,fun _ _=>rfl⟩)
     replace hHeld:(fun w'=>(w'.cell? ⟨b10,0,none⟩=w91.cell? ⟨b10,0,none⟩∧w'.cell? ⟨b10,1,none⟩=w91.cell? ⟨b10,1,none⟩∧w'.cell? ⟨b10,2,none⟩=w91.cell? ⟨b10,2,none⟩∧w'.cell? ⟨b10,3,none⟩=w91.cell? ⟨b10,3,none⟩∧w'.cell? ⟨b10,4,none⟩=w91.cell? ⟨b10,4,none⟩∧w'.cell? ⟨b10,5,none⟩=w91.cell? ⟨b10,5,none⟩∧w'.cell? ⟨D,0,none⟩=w91.cell? ⟨D,0,none⟩∧w'.cell? ⟨D,1,none⟩=w91.cell? ⟨D,1,none⟩∧w'.cell? ⟨D,2,none⟩=w91.cell? ⟨D,2,none⟩∧w'.cell? ⟨D,3,none⟩=w91.cell? ⟨D,3,none⟩∧w'.cell? ⟨D,4,none⟩=w91.cell? ⟨D,4,none⟩∧w'.cell? ⟨D,5,none⟩=w91.cell? ⟨D,5,none⟩)) w92:=by rw [hw92];exact hHeld
     rw [←hw92]
     clear hw92
     refine tk (i:=0) (h:=?_)
     try simp only [Act.put,lt,ly,lu]
     refine tk (i:=1) (h:=?_)
     try simp only [Act.put,lt,ly,lu]
     refine tk (i:=2) (h:=?_)
     try simp only [Act.put,lt,ly,lu]
     have y90_92:=hid (Below.step b91.out b92.out)
     refine wpAnyH_ready (rs:=[3]) (by kernel_rfl) (by simp) (AllReadyH.cons (o:=?oq4) ?eq4 ?kq4 AllReadyH.nil)
     case eq4=>simp only [lg,lz,ls];rfl
     intro K hK;go_simp;go_at_call 84
     refine ((hor_to hfx.out hfy.out (hHR.out w92 (k+1) _ cap (chain hBW.out y90_92.out) hkm (hx9.out.keep y90_92.out)))).mono ?_
     rintro e w93 ⟨v93,rfl,hv93,b93⟩
     obtain ⟨C61,j61,C62,j62,C63,j63,C64,j64,rfl,-,-,-,-⟩:=id hv93.opened
     replace hv93:=hid hv93
     replace b93:=hid b93
     have y91_93:=hid (Below.step b92.out b93.out)
     have hS:=y91_93.out
     clear hHeld
     refine hK.out _ _ ?_ (fun hHeld=>?_)
     · (try dsimp only)
       exact ⟨hS.cell (p:=⟨b10,0,none⟩) hBl,hS.cell (p:=⟨b10,1,none⟩) hBl,hS.cell (p:=⟨b10,2,none⟩) hBl,hS.cell (p:=⟨b10,3,none⟩) hBl,hS.cell (p:=⟨b10,4,none⟩) hBl,hS.cell (p:=⟨b10,5,none⟩) hBl,hS.cell (p:=⟨D,0,none⟩) hDl,hS.cell (p:=⟨D,1,none⟩) hDl,hS.cell (p:=⟨D,2,none⟩) hDl,hS.cell (p:=⟨D,3,none⟩) hDl,hS.cell (p:=⟨D,4,none⟩) hDl,hS.cell (p:=⟨D,5,none⟩) hDl⟩
     clear hK K hS;try simp only [Act.put,lt,ly,lu]
     have y90_93:=hid (Below.step y90_92.out b93.out)
     refine wpAnyH_ready (rs:=[4]) (by kernel_rfl) (by simp) (AllReadyH.cons (o:=?oq5) ?eq5 ?kq5 AllReadyH.nil)
     case eq5=>simp only [lg,lz,ls];rfl
     intro K hK;go_simp;go_at_call 27
     refine (hull_to e_p2.out e_q2.out (hacc.out.keep y90_93.out) hv93.out tp' tq' tx' ty').mono ?_
     rintro e w94 ⟨v94,rfl,hv94,b94⟩
     obtain ⟨C65,j65,C66,j66,C67,j67,C68,j68,rfl,-,-,-,-⟩:=id hv94.opened
     replace hv94:=hid hv94
     replace b94:=hid b94
     have y91_94:=hid (Below.step y91_93.out b94.out)
     have hS:=y91_94.out
     clear hHeld
     refine hK.out _ _ ?_ (fun hHeld=>?_)
     · (try dsimp only)
       exact ⟨hS.cell (p:=⟨b10,0,none⟩) hBl,hS.cell (p:=⟨b10,1,none⟩) hBl,hS.cell (p:=⟨b10,2,none⟩) hBl,hS.cell (p:=⟨b10,3,none⟩) hBl,hS.cell (p:=⟨b10,4,none⟩) hBl,hS.cell (p:=⟨b10,5,none⟩) hBl,hS.cell (p:=⟨D,0,none⟩) hDl,hS.cell (p:=⟨D,1,none⟩) hDl,hS.cell (p:=⟨D,2,none⟩) hDl,hS.cell (p:=⟨D,3,none⟩) hDl,hS.cell (p:=⟨D,4,none⟩) hDl,hS.cell (p:=⟨D,5,none⟩) hDl⟩
     clear hK K hS;try simp only [Act.put,lt,ly,lu]
     refine tk (i:=5) (h:=?_)
     try simp only [Act.put,lt,ly,lu]
     refine wpAnyH_done (by kernel_rfl) ?_ _
     clear hHeld x0 x1 x2 x3 x4 x5 q0 q1 q2' q3 q4 q5
     have y90_94:=hid (Below.step y90_93.out b94.out)
     have DB:=at_keep g5.out y90_94.out
     have k0:=cell_of_row _ _ 0 _ _ _ DB
     have F0:=frozen_of_row w94 b10 0 _ _ DB
     have k1:=cell_of_row _ _ 1 _ _ _ DB
     have F1:=frozen_of_row w94 b10 1 _ _ DB
     have k2:=cell_of_row _ _ 2 _ _ _ DB
     have F2:=frozen_of_row w94 b10 2 _ _ DB
     have k3:=cell_of_row _ _ 3 _ _ _ DB
     have F3:=frozen_of_row w94 b10 3 _ _ DB
     have k4:=cell_of_row _ _ 4 _ _ _ DB
     have F4:=frozen_of_row w94 b10 4 _ _ DB
     have k5:=cell_of_row _ _ 5 _ _ _ DB
     have F5:=frozen_of_row w94 b10 5 _ _ DB
     simp only [lg,lz,ls] at k0 k1 k2 k3 k4 k5
     obtain ⟨ue,hw⟩:=eX (((((((w94.setCell ⟨b10,0,none⟩ (.bool (decide (p2.num<0)))).setCell ⟨b10,1,none⟩ (.slice C65 (Vx.len p2.num.natAbs) j65)).setCell ⟨b10,2,none⟩ (.slice C66 (Vx.len (below p2.den)) j66)).setCell ⟨b10,3,none⟩ (.bool (decide (q2.num<0)))).setCell ⟨b10,4,none⟩ (.slice C67 (Vx.len q2.num.natAbs) j67)).setCell ⟨b10,5,none⟩ (.slice C68 (Vx.len (below q2.den)) j68)))
     obtain ⟨E,OT,LV,BL⟩:=stored6 DB hw
     have FIN:Hid (PolyAt w b10 Bp a b m l (k+1) ue):=hid ⟨⟨_,_,_,_,_,_,_,_,_,_,_,_,_,_,E,by rw [hst.out];exact LV.box hv94.out⟩,(hP.out.keep y90_94.out).stay ltP OT LV,OT _ _ (by omega) (at_keep gR.out y90_94.out),BL _ _ (by omega) (chain hBW.out y90_94.out),lt1,ltP⟩
     refine late_do (by rfl) (by rfl) ?_
     clear DB E OT LV BL
     go_simp
     rw [←hw]
     clear hw k0 k1 k2 k3 k4 k5 F0 F1 F2 F3 F4 F5
     go_wp2_with fail
     go_roundw
     case rel=>exact ⟨k+1,hkn,by go_num,FIN⟩
     case measure=>simp [intOf];omega
   · obtain rfl:k=m - 1:=Nat.le_antisymm hk hkn
     have hin:decide (m - 1<m - 1)=false:=decide_eq_false (Nat.lt_irrefl _)
     have e1:p=x:=hp.symm.trans ex.out
     have e2:q=y:=hq.symm.trans ey.out
     subst e1 e2
     obtain ⟨z0,z1,z2,z3,z4,z5⟩:=cells6 g5
     have q0:=cell_of_row _ _ 0 _ _ _ gR
     have F0:=frozen_of_row wr (w.heap.size+1) 0 _ _ gR
     have q1:=cell_of_row _ _ 1 _ _ _ gR
     have F1:=frozen_of_row wr (w.heap.size+1) 1 _ _ gR
     have q2:=cell_of_row _ _ 2 _ _ _ gR
     have F2:=frozen_of_row wr (w.heap.size+1) 2 _ _ gR
     have q3:=cell_of_row _ _ 3 _ _ _ gR
     have F3:=frozen_of_row wr (w.heap.size+1) 3 _ _ gR
     have q4:=cell_of_row _ _ 4 _ _ _ gR
     have F4:=frozen_of_row wr (w.heap.size+1) 4 _ _ gR
     have q5:=cell_of_row _ _ 5 _ _ _ gR
     have F5:=frozen_of_row wr (w.heap.size+1) 5 _ _ gR
     simp only [lg,lz,ls] at q0 q1 q2 q3 q4 q5
     obtain ⟨ue,hw⟩:=eX (((((((wr.setCell ⟨(w.heap.size+1),0,none⟩ (.bool s1)).setCell ⟨(w.heap.size+1),1,none⟩ (.slice A1 n1 c1)).setCell ⟨(w.heap.size+1),2,none⟩ (.slice A2 n2 c2)).setCell ⟨(w.heap.size+1),3,none⟩ (.bool s2)).setCell ⟨(w.heap.size+1),4,none⟩ (.slice A3 n3 c3)).setCell ⟨(w.heap.size+1),5,none⟩ (.slice A4 n4 c4)))
     obtain ⟨E,-,LV,BL⟩:=stored6 gR hw
     have FE:=hid (LV.box hacc)
     have FB:=hid (BL _ _ (Nat.le_succ _) hBW)
     replace E:=hid E
     replace hw:=hid hw
     clear hp hq ex ey hP gR hBW g5 BL LV tp tq hacc hHR hF
     go_wp2_with fail
     rw [←hw.out]
     obtain ⟨r0,r1',r2',r3',r4',r5⟩:=cells6 E.out
     refine bodyPost_ret (v:=.tuple #[.agg #[.bool s1,.slice A1 n1 c1,.slice A2 n2 c2,.bool s2,.slice A3 n3 c3,.slice A4 n4 c4],.int .i64 0]) ?_ rfl ⟨_,rfl,FE.out,FB.out⟩
     simp [results,Tryz.results38,go_sem,r0,r1',r2',r3',r4',r5]
end Go.Proofs.YtlcimajjnfbidaaGreatDoor
namespace Go.Proofs.YtlcimajjnfbidaaGreatDoor
open Lib (hid)
open Go.RowKit
open Vx
theorem i64_small {n:Nat} (h:n≤255):IntKind.i64.wrap ((n:Nat):Int)=((n:Nat):Int):=by
 unfold IntKind.wrap
 simp [IntKind.bits,IntKind.signed]
 omega
theorem ratio_255 (p:Nat):(if (255:Int)=0 then 0 else mkRat (if (255:Int)<0 then -((p:Nat):Int) else ((p:Nat):Int)) (255:Int).natAbs)=mkRat ((p:Nat):Int) 255:=by
 rw [if_neg (by decide),if_neg (by decide)];rfl
theorem siz_ratio {p:Nat} (hp:p≤255):siz (mkRat ((p:Nat):Int) 255)≤1:=by
 refine Nat.le_trans (siz_mk _ _) ?_
 have h1:len ((p:Nat):Int).natAbs≤1:=by
   rw [Int.natAbs_natCast]
   exact len_le (by rw [W_eq];omega)
 have h2:len 255≤1:=len_le (by rw [W_eq];omega)
 omega
theorem add_qC {w:World} {vx vy:Value} {x y q:Rat} (hq:x+y=q) (hx:IsNum w vx x) (hy:IsNum w vy y) (hs:siz x≤34359738368) (ht:siz y≤34359738368) :
   Calls Tryz.prog 45 #[vx,vy] w (NumRet w q):=by rw [←hq];exact numAdd_any hx hy hs ht
theorem mul_qC {w:World} {vx vy:Value} {x y q:Rat} (hq:x*y=q) (hx:IsNum w vx x) (hy:IsNum w vy y) (hs:siz x≤34359738368) (ht:siz y≤34359738368) :
   Calls Tryz.prog 46 #[vx,vy] w (NumRet w q):=by rw [←hq];exact numMul_any hx hy hs ht
theorem at_any {w:World} {v:Value} {a b:Rat} {p:Nat} (hv:IsBox w v a b) (hp:p≤255) (sa:siz a≤1073741824) (sb:siz b≤1073741824) :
   Calls Tryz.prog 43 #[v,.int .u8 (p:Nat)] w (NumRet w (a+(b - a)*mkRat ((p:Nat):Int) 255)):=by
 obtain ⟨A1,c1,A2,c2,A3,c3,A4,c4,rfl,ha,hb⟩:=hv.opened
 obtain ⟨wB,hwB⟩:=eX ((w.alloc (.cells #[.bool (decide (a.num<0)),.slice A1 (len a.num.natAbs) c1,.slice A2 (len (below a.den)) c2,.bool (decide (b.num<0)),.slice A3 (len b.num.natAbs) c3,.slice A4 (len (below b.den)) c4] 48)).alloc (.cells #[.bool false,.slice none 0 0,.slice none 0 0] 31))
 obtain ⟨b0,g0,g1⟩:=news2' hwB
 obtain ⟨k0,k1,k2,k3,k4,k5⟩:=cells6 g0
 have HK0:=hid (Kept.start (T:=31) rfl (plain3 _ _ _ _ _ _ _) g1)
 have HB0:=hid b0
 have hlt1:w.heap.size<w.heap.size+1:=by omega
 clear g0 g1 b0
 obtain ⟨f,ef⟩:=eY (mkRat ((p:Nat):Int) 255:Rat)
 obtain ⟨d,ed⟩:=eY (b - a:Rat)
 rw [ef,ed]
 obtain ⟨m,em⟩:=eY (d*f:Rat)
 rw [em]
 obtain ⟨q,eq⟩:=eY (a+m:Rat)
 rw [eq]
 have zd':siz d≤2147483649:=by rw [←ed];exact Nat.le_trans (siz_sub b a) (by omega)
 have zf':siz f≤1:=by rw [←ef];exact siz_ratio hp
 have zm':siz m≤2147483650:=by rw [←em];exact Nat.le_trans (siz_mul d f) (by omega)
 have zd:Hid (siz d≤34359738368):=Nat.le_trans zd' (by omega)
 have zf:Hid (siz f≤34359738368):=Nat.le_trans zf' (by omega)
 have zm:Hid (siz m≤34359738368):=Nat.le_trans zm' (by omega)
 have za:Hid (siz a≤34359738368):=Nat.le_trans sa (by omega)
 have H1:=fun (w':World) (hk:Held3 wB (w.heap.size+1) wB w')=>hid (boxLo_any (IsNum.pair (hk.stay.num (ha.keep HB0.out)) (hk.stay.num (hb.keep HB0.out))) (Nat.le_trans sa (by omega)))
 have H2:=fun (w':World) (hk:Held3 wB (w.heap.size+1) wB w')=>hid (boxWidth_any (IsNum.pair (hk.stay.num (ha.keep HB0.out)) (hk.stay.num (hb.keep HB0.out))) (Nat.le_trans sa (by omega)) (Nat.le_trans sb (by omega)))
 rw [ed] at H2
 have H3:=fun (w':World)=>ratio_to (w:=w') (a:=((p:Nat):Int)) (b:=255) (by omega) (by omega) (by omega) (by omega) ((ratio_255 p).trans ef)
 have hp1:((p:Nat):Int)≤255:=by omega
 have hw64:=i64_small hp
 replace em:=hid em
 replace eq:=hid eq
 have H0:=HK0.out.begin
 have H0':=H0
 unfold Held3 at H0'
 clear ed ef zd' zf' zm' hv ha hb sa sb hp
 go_enter Tryz.func43,Tryz.ntmps43
 go_upto_region 1 with fail
 rw [←hwB]
 clear hwB
 go_wp2_with fail
 go_region_held3 (fun w'=>(∀ b o,b<w.heap.size+1→w'.cell? ⟨b,o,none⟩=wB.cell? ⟨b,o,none⟩)∧w'.cell? ⟨w.heap.size+1,0,none⟩=some (cur w' ⟨w.heap.size+1,0,none⟩)∧w'.cell? ⟨w.heap.size+1,1,none⟩=some (cur w' ⟨w.heap.size+1,1,none⟩)∧w'.cell? ⟨w.heap.size+1,2,none⟩=some (cur w' ⟨w.heap.size+1,2,none⟩)∧w'.frozen? ⟨w.heap.size+1,0,none⟩=false∧w'.frozen? ⟨w.heap.size+1,1,none⟩=false∧w'.frozen? ⟨w.heap.size+1,2,none⟩=false∧Kept 3 31 wB (w.heap.size+1) w'∧Stay wB w')
   (first | with_reducible exact H0' | with_reducible exact hk1' | with_reducible exact hk2' | with_reducible exact hk3' | with_reducible exact hk4' | with_reducible exact hk5' | exact hk5.store)
   (first | (go_at_call 45;refine (add_qC eq.out (((hv1.keep hbl2).keep hbl3).keep hbl4) hv4 za.out zm.out).mono ?_;rintro e w5 ⟨v5,rfl,hv5,hbl5⟩;obtain ⟨C9,j9,C10,j10,rfl,-,-⟩:=id hv5.opened;have hk5:=hk4.call hbl5;have hk5':=hk5;unfold Held3 at hk5') | (go_at_call 46;refine (mul_qC em.out (hv2.keep hbl3) hv3 zd.out zf.out).mono ?_;rintro e w4 ⟨v4,rfl,hv4,hbl4⟩;obtain ⟨C7,j7,C8,j8,rfl,-,-⟩:=id hv4.opened;have hk4:=hk3.call hbl4;have hk4':=hk4;unfold Held3 at hk4') | (go_at_call 58;refine (H3 _).mono ?_;rintro e w3 ⟨v3,rfl,hv3,hbl3⟩;obtain ⟨C5,j5,C6,j6,rfl,-,-⟩:=id hv3.opened;have hk3:=hk2.call hbl3;have hk3':=hk3;unfold Held3 at hk3') | (go_at_call 82;refine ((H2 _ hk1).out).mono ?_;rintro e w2 ⟨v2,rfl,hv2,hbl2⟩;obtain ⟨C3,j3,C4,j4,rfl,-,-⟩:=id hv2.opened;have hk2:=hk1.call hbl2;have hk2':=hk2;unfold Held3 at hk2') | (go_at_call 51;refine ((H1 _ H0).out).mono ?_;rintro e w1 ⟨v1,rfl,hv1,hbl1⟩;obtain ⟨C1,j1,C2,j2,rfl,-,-⟩:=id hv1.opened;have hk1:=H0.call hbl1;have hk1':=hk1;unfold Held3 at hk1'))
 rename_i hHl
 clear hHl
 have HD:=hk5.done (q:=q) (b:=decide (q.num<0)) (A1:=C9) (n1:=len q.num.natAbs) (c1:=j9) (A2:=C10) (n2:=len (below q.den)) (c2:=j10) (hv5)
 obtain ⟨d1,d2,d3⟩:=HD
 obtain ⟨r0,r1,r2⟩:=cells3 d3
 have HD:=hid (And.intro d1 d2)
 clear d1 d2 d3
 go_wp2_with fail
 refine bodyPost_ret (v:=.agg #[.bool (decide (q.num<0)),.slice (C9) (len q.num.natAbs) (j9),.slice (C10) (len (below q.den)) (j10)]) ?_ rfl ⟨_,rfl,HD.out.1,below_to HB0.out (by omega) HD.out.2⟩
 simp [results,Tryz.results43,go_sem,r0,r1,r2]
end Go.Proofs.YtlcimajjnfbidaaGreatDoor
namespace Go.Proofs.YtlcimajjnfbidaaGreatDoor
open Lib (hid)
open Go.RowKit
open Vx
theorem parse_sizF (s:ByteArray):siz (parseV s).1≤4100:=by
 unfold parseV
 split
 · exact Nat.le_trans (show siz 0≤3 by decide +kernel) (by omega)
 · rename_i h0
   have hsz:s.data.toList.length≤2000:=by
     rw [size_data];omega
   split
   · exact Nat.le_trans (show siz 0≤3 by decide +kernel) (by omega)
   · rename_i q hq
     have ht:=trim_len s.data.toList [45]
     have c1:=cut_len (Lib.trimPrefix s.data.toList [45]) [47]
     have c2:=cut_len (Lib.trimPrefix s.data.toList [45]) [46]
     unfold parseL at hq
     split at hq
     · split at hq
       · rename_i h1
         obtain rfl:=Option.some.inj hq
         refine Nat.le_trans (siz_mk _ _) ?_
         have n1:=len_valL (dig_all (whole_dig h1.1))
         have n2:=len_valL (dig_all (whole_dig h1.2.1))
         rw [sgn_natAbs]
         omega
       · cases hq
     · split at hq
       · rename_i h1 h2
         obtain rfl:=Option.some.inj hq
         refine Nat.le_trans (siz_mk _ _) ?_
         have hb:(Lib.cut (Lib.trimPrefix s.data.toList [45]) [46]).2.1.all digC=true:=by
           rcases hf:(Lib.cut (Lib.trimPrefix s.data.toList [45]) [46]).2.2 with _ | _
           · rw [cut_none _ _ hf];rfl
           · exact dig_all (h2.2 hf)
         have hab:((Lib.cut (Lib.trimPrefix s.data.toList [45]) [46]).1++(Lib.cut (Lib.trimPrefix s.data.toList [45]) [46]).2.1).all digC=true:=by
           rw [List.all_append,hb,dig_all (whole_dig h2.1)];rfl
         have n1:=len_valL hab
         rw [List.length_append] at n1
         have n2:=len_pow_le 10 (Lib.cut (Lib.trimPrefix s.data.toList [45]) [46]).2.1.length
         have n3:len 10=1:=by decide +kernel
         rw [n3] at n2
         rw [sgn_natAbs]
         omega
       · cases hq
theorem cell_keepF {w w':World} {b:Nat} {v:Value} (h:w.cell? ⟨b,0,none⟩=some v) (hb:Below w.heap.size w w'):w'.cell? ⟨b,0,none⟩=some v:=(hb.cell (p:=⟨b,0,none⟩) (World.block_lt_of_cell? w _ h)).trans h
theorem number_val {w:World} {s:ByteArray} {mx:Int} {q:Rat} (hM:w.cell? ⟨1,0,none⟩=some (.int .i64 mx)) (hq:(parseV s).1=q) :
   Calls Tryz.prog 41 #[.string s] w (NumRet w q):=number_to hM hq
end Go.Proofs.YtlcimajjnfbidaaGreatDoor
