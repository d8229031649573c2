/-
  Contracts of the functions that the law calls, for every input (Tg Ts).
-/
import Derived.Test.YtlcimajjnfbidaaGreatDoorE00
import Derived.Test.YtlcimajjnfbidaaGreatDoorE40
import Derived.Test.YtlcimajjnfbidaaGreatDoorE24
import Derived.Test.YtlcimajjnfbidaaGreatDoorE23
set_option linter.all false
set_option maxRecDepth 100000
set_option maxHeartbeats 40000000
namespace Go.Proofs.YtlcimajjnfbidaaGreatDoor.Rf
open Lib (hid)
open Go.RowKit
open Rx
open Vx (siz siz_num siz_den)
open List renaming getElem?_toArray → lg, getElem?_cons_zero → lz, getElem?_cons_succ → ls, setIfInBounds_toArray → lt, set_cons_zero → ly, set_cons_succ → lu
theorem num_to {P:Program} {f:Nat} {ar:Array Value} {w:World} {q z:Rat} (e:q=z) (h:Calls P f ar w (NumRet w q)):Calls P f ar w (NumRet w z):=e ▸ h
theorem cmpQ_eq0 {x y:Rat}:cmpQ x y=0↔x=y:=by
 unfold cmpQ
 rcases Decidable.em (x<y) with h | h
 · rw [if_pos h];exact ⟨fun a=>absurd a (by decide),fun a=>absurd (a ▸ h) (Rat.lt_irrefl)⟩
 · rw [if_neg h]
   rcases Decidable.em (x=y) with k | k
   · rw [if_pos k];exact ⟨fun _=>k,fun _=>rfl⟩
   · rw [if_neg k];exact ⟨fun a=>absurd a (by decide),fun a=>absurd a k⟩
theorem hasR_any {w:World} {vx vy:Value} {a b p:Rat} {r:Bool} (hr:decide (a≤p∧p≤b)=r) (hx:IsRBox w vx a b) (hy:IsRat w vy p) (sa:siz a≤16777216) (sb:siz b≤16777216) (sp:siz p≤16777216) :
   Calls Tryz.prog 35 #[vx,vy] w (BoolRet w r):=by
 obtain ⟨c1,e1⟩:=eY (cmpQ a p:Int)
 obtain ⟨c2,e2⟩:=eY (cmpQ p b:Int)
 have ta:siz a≤268435456:=by omega
 have tb:siz b≤268435456:=by omega
 have tp:siz p≤268435456:=by omega
 clear sa sb sp
 replace ta:=hid ta
 replace tb:=hid tb
 replace tp:=hid tp
 rcases Decidable.em (a≤p) with h | h
 · have d1:decide (c1≤0)=true:=decide_eq_true (by rw [←e1];exact cmpQ_le0.2 h)
   have d2:decide (c2≤0)=r:=by
     rw [←hr,←e2]
     exact decide_eq_decide.2 ⟨fun k=>⟨h,cmpQ_le0.1 k⟩,fun k=>cmpQ_le0.2 k.2⟩
   replace e1:=hid e1
   replace e2:=hid e2
   clear h hr
   obtain ⟨C1,j1,C2,j2,C3,j3,C4,j4,rfl,hxl,hxh⟩:=id hx.opened
   replace hx:=hid hx
   replace hxl:=hid hxl
   replace hxh:=hid hxh
   obtain ⟨C5,j5,C6,j6,rfl,-,-⟩:=id hy.opened
   replace hy:=hid hy
   obtain ⟨w1,hw1⟩:=eX (((w.alloc (.cells #[.bool (decide (a.num<0)),.slice C1 (len a.num.natAbs) j1,.slice C2 (len a.den) j2,.bool (decide (b.num<0)),.slice C3 (len b.num.natAbs) j3,.slice C4 (len b.den) j4] 50)).alloc (.cells #[.bool (decide (p.num<0)),.slice C5 (len p.num.natAbs) j5,.slice C6 (len p.den) j6] 39)))
   obtain ⟨b1,g1,g2⟩:=news2' hw1
   replace g1:=hid g1
   replace g2:=hid g2
   replace b1:=hid b1
   go_enter Tryz.func35,Tryz.ntmps35
   go_upto_region 1 with fail
   rw [←hw1]
   clear hw1
   have hg:w1.heap[w.heap.size]?=some (.cells #[.bool (decide (a.num<0)),.slice C1 (len a.num.natAbs) j1,.slice C2 (len a.den) j2,.bool (decide (b.num<0)),.slice C3 (len b.num.natAbs) j3,.slice C4 (len b.den) j4] 50 (0,0)):=((Below.refl _ w1).block _ (Array.getElem?_eq_some_iff.1 g1.out).1).trans g1.out
   obtain ⟨z_x_0,z_x_1,z_x_2,z_x_3,z_x_4,z_x_5⟩:=cells6 hg
   clear hg
   have hg:w1.heap[w.heap.size+1]?=some (.cells #[.bool (decide (p.num<0)),.slice C5 (len p.num.natAbs) j5,.slice C6 (len p.den) j6] 39 (0,0)):=((Below.refl _ w1).block _ (Array.getElem?_eq_some_iff.1 g2.out).1).trans g2.out
   obtain ⟨z_y_0,z_y_1,z_y_2⟩:=cells3 hg
   clear hg
   have HX:=hid (cmpR_val e1.out (hxl.out.keep b1.out) (hy.out.keep b1.out) ta.out tp.out)
   go_wp2_with fail
   refine (HX.out).mono ?_
   rintro e w2 ⟨rfl,b2⟩
   replace b2:=hid b2
   clear HX
   clear z_x_0 z_x_1 z_x_2 z_x_3 z_x_4 z_x_5 z_y_0 z_y_1 z_y_2
   have hg:w2.heap[w.heap.size]?=some (.cells #[.bool (decide (a.num<0)),.slice C1 (len a.num.natAbs) j1,.slice C2 (len a.den) j2,.bool (decide (b.num<0)),.slice C3 (len b.num.natAbs) j3,.slice C4 (len b.den) j4] 50 (0,0)):=(b2.out.block _ (Array.getElem?_eq_some_iff.1 g1.out).1).trans g1.out
   obtain ⟨z_x_0,z_x_1,z_x_2,z_x_3,z_x_4,z_x_5⟩:=cells6 hg
   clear hg
   have hg:w2.heap[w.heap.size+1]?=some (.cells #[.bool (decide (p.num<0)),.slice C5 (len p.num.natAbs) j5,.slice C6 (len p.den) j6] 39 (0,0)):=(b2.out.block _ (Array.getElem?_eq_some_iff.1 g2.out).1).trans g2.out
   obtain ⟨z_y_0,z_y_1,z_y_2⟩:=cells3 hg
   clear hg
   have HX:=hid (cmpR_val e2.out (hy.out.keep (Below.step b1.out b2.out)) (hxh.out.keep (Below.step b1.out b2.out)) tp.out tb.out)
   go_wp2_with fail
   refine (HX.out).mono ?_
   rintro e w3 ⟨rfl,b3⟩
   replace b3:=hid b3
   clear HX
   clear z_x_0 z_x_1 z_x_2 z_x_3 z_x_4 z_x_5 z_y_0 z_y_1 z_y_2
   have HE:=hid (Below.step (Below.step b1.out b2.out) b3.out)
   go_wp2_with fail
   go_ret
   exact ⟨rfl,HE.out⟩
 · have d1:decide (c1≤0)=false:=decide_eq_false (by rw [←e1];exact fun k=>h (cmpQ_le0.1 k))
   have d2:r=false:=by rw [←hr];exact decide_eq_false (fun k=>h k.1)
   subst d2
   replace e1:=hid e1
   clear h hr e2
   obtain ⟨C7,j7,C8,j8,C9,j9,C10,j10,rfl,hxl,hxh⟩:=id hx.opened
   replace hx:=hid hx
   replace hxl:=hid hxl
   replace hxh:=hid hxh
   obtain ⟨C11,j11,C12,j12,rfl,-,-⟩:=id hy.opened
   replace hy:=hid hy
   obtain ⟨w1,hw1⟩:=eX (((w.alloc (.cells #[.bool (decide (a.num<0)),.slice C7 (len a.num.natAbs) j7,.slice C8 (len a.den) j8,.bool (decide (b.num<0)),.slice C9 (len b.num.natAbs) j9,.slice C10 (len b.den) j10] 50)).alloc (.cells #[.bool (decide (p.num<0)),.slice C11 (len p.num.natAbs) j11,.slice C12 (len p.den) j12] 39)))
   obtain ⟨b1,g1,g2⟩:=news2' hw1
   replace g1:=hid g1
   replace g2:=hid g2
   replace b1:=hid b1
   go_enter Tryz.func35,Tryz.ntmps35
   go_upto_region 1 with fail
   rw [←hw1]
   clear hw1
   have hg:w1.heap[w.heap.size]?=some (.cells #[.bool (decide (a.num<0)),.slice C7 (len a.num.natAbs) j7,.slice C8 (len a.den) j8,.bool (decide (b.num<0)),.slice C9 (len b.num.natAbs) j9,.slice C10 (len b.den) j10] 50 (0,0)):=((Below.refl _ w1).block _ (Array.getElem?_eq_some_iff.1 g1.out).1).trans g1.out
   obtain ⟨z_x_0,z_x_1,z_x_2,z_x_3,z_x_4,z_x_5⟩:=cells6 hg
   clear hg
   have hg:w1.heap[w.heap.size+1]?=some (.cells #[.bool (decide (p.num<0)),.slice C11 (len p.num.natAbs) j11,.slice C12 (len p.den) j12] 39 (0,0)):=((Below.refl _ w1).block _ (Array.getElem?_eq_some_iff.1 g2.out).1).trans g2.out
   obtain ⟨z_y_0,z_y_1,z_y_2⟩:=cells3 hg
   clear hg
   have HX:=hid (cmpR_val e1.out (hxl.out.keep b1.out) (hy.out.keep b1.out) ta.out tp.out)
   go_wp2_with fail
   refine (HX.out).mono ?_
   rintro e w2 ⟨rfl,b2⟩
   replace b2:=hid b2
   clear HX
   clear z_x_0 z_x_1 z_x_2 z_x_3 z_x_4 z_x_5 z_y_0 z_y_1 z_y_2
   have HE:=hid (Below.step b1.out b2.out)
   go_wp2_with fail
   go_ret
   exact ⟨rfl,HE.out⟩
theorem sameBox_any {w:World} {vx vy:Value} {a b:Rat} (hx:IsBox w vx a b) (hy:IsRBox w vy a b) (sa:siz a≤4100) (sb:siz b≤4100) (hT:TabAt 0 Lib.deBruijn64tab w) :
   Calls Tryz.prog 16 #[vx,vy] w (BoolRet w true):=by
 have s1:siz a≤536870912:=by omega
 have s2:siz b≤536870912:=by omega
 replace s1:=hid s1
 replace s2:=hid s2
 replace sa:=hid sa
 replace sb:=hid sb
 replace hT:=hid hT
 obtain ⟨C1,j1,C2,j2,C3,j3,C4,j4,rfl,hxl,hxh⟩:=id hx.opened
 replace hx:=hid hx
 replace hxl:=hid hxl
 replace hxh:=hid hxh
 obtain ⟨C5,j5,C6,j6,C7,j7,C8,j8,rfl,hyl,hyh⟩:=id hy.opened
 replace hy:=hid hy
 replace hyl:=hid hyl
 replace hyh:=hid hyh
 obtain ⟨w1,hw1⟩:=eX (((w.alloc (.cells #[.bool (decide (a.num<0)),.slice C1 (Vx.len a.num.natAbs) j1,.slice C2 (Vx.len (below a.den)) j2,.bool (decide (b.num<0)),.slice C3 (Vx.len b.num.natAbs) j3,.slice C4 (Vx.len (below b.den)) j4] 48)).alloc (.cells #[.bool (decide (a.num<0)),.slice C5 (len a.num.natAbs) j5,.slice C6 (len a.den) j6,.bool (decide (b.num<0)),.slice C7 (len b.num.natAbs) j7,.slice C8 (len b.den) j8] 50)))
 obtain ⟨b1,g1,g2⟩:=news2' hw1
 replace g1:=hid g1
 replace g2:=hid g2
 replace b1:=hid b1
 go_enter Tryz.func16,Tryz.ntmps16
 go_upto_region 1 with fail
 rw [←hw1]
 clear hw1
 go_wp2_with fail
 have HSZa:Hid ((w.heap.size+2)≤w1.heap.size):=hid (by have:=at_lt (at_keep g2.out (Below.refl _ w1));omega)
 have hg:w1.heap[w.heap.size]?=some (.cells #[.bool (decide (a.num<0)),.slice C1 (Vx.len a.num.natAbs) j1,.slice C2 (Vx.len (below a.den)) j2,.bool (decide (b.num<0)),.slice C3 (Vx.len b.num.natAbs) j3,.slice C4 (Vx.len (below b.den)) j4] 48 (0,0)):=((Below.refl _ w1).block _ (Array.getElem?_eq_some_iff.1 g1.out).1).trans g1.out
 obtain ⟨z_x_0,z_x_1,z_x_2,z_x_3,z_x_4,z_x_5⟩:=cells6 hg
 clear hg
 have hlta_x:w.heap.size<(w.heap.size+2):=by omega
 have hg:w1.heap[w.heap.size+1]?=some (.cells #[.bool (decide (a.num<0)),.slice C5 (len a.num.natAbs) j5,.slice C6 (len a.den) j6,.bool (decide (b.num<0)),.slice C7 (len b.num.natAbs) j7,.slice C8 (len b.den) j8] 50 (0,0)):=((Below.refl _ w1).block _ (Array.getElem?_eq_some_iff.1 g2.out).1).trans g2.out
 obtain ⟨z_y_0,z_y_1,z_y_2,z_y_3,z_y_4,z_y_5⟩:=cells6 hg
 clear hg
 have hlta_y:w.heap.size+1<(w.heap.size+2):=by omega
 have H0:=Held0.start w1 (w.heap.size+2)
 have H0':=H0
 unfold Held0 at H0'
 refine wp_region_held_drew (S:=(fun w'=>(∀ b o,b<(w.heap.size+2)→w'.cell? ⟨b,o,none⟩=w1.cell? ⟨b,o,none⟩)∧Below ((w.heap.size+2)) w1 w'∧Stay w1 w')) (by kernel_rfl) ?_ (fun hHeld=>?_)
 · (try dsimp only)
   exact H0'
 obtain ⟨w2,hw2⟩:=eX w1.drew
 have b2:Hid (Below w1.heap.size w1 w2):=by rw [hw2];exact ⟨rfl,rfl,rfl,Nat.le_refl _,fun _ _=>rfl⟩
 rw [←hw2] at hHeld H0 ⊢
 clear hw2 H0'
 refine tk (i:=0) (h:=?_)
 try simp only [Act.put,lt,ly,lu]
 refine tk (i:=2) (h:=?_)
 try simp only [Act.put,lt,ly,lu]
 refine tk (i:=3) (h:=?_)
 try simp only [Act.put,lt,ly,lu]
 refine wpAnyH_ready (rs:=[1]) (by kernel_rfl) (by simp) (AllReadyH.cons (o:=?oq4) ?eq4 ?kq4 AllReadyH.nil)
 case eq4=>simp only [lg,lz,ls];rfl
 intro K hK;go_simp;go_at_call 51
 refine (boxLo_any (hx.out.keep (Below.step b1.out b2.out)) (Nat.le_trans s1.out (by omega))).mono ?_
 rintro e w3 ⟨v3,rfl,hv3,b3⟩
 obtain ⟨C9,j9,C10,j10,rfl,-,-⟩:=id hv3.opened
 replace hv3:=hid hv3
 replace b3:=hid b3
 have hk3:=hcall_le H0 HSZa b3.out;have hk3':=hk3;unfold Held0 at hk3';clear hHeld H0
 refine hK.out _ _ ?_ (fun hHeld=>?_)
 · (try dsimp only);with_reducible exact hk3'
 clear hK K hk3';try simp only [Act.put,lt,ly,lu]
 refine wpAnyH_ready (rs:=[4]) (by kernel_rfl) (by simp) (AllReadyH.cons (o:=?oq5) ?eq5 ?kq5 AllReadyH.nil)
 case eq5=>simp only [lg,lz,ls];rfl
 intro K hK;go_simp;go_at_call 12
 refine (same_any hv3.out (hyl.out.keep (Below.step (Below.step b1.out b2.out) b3.out)) sa.out (tab_keep hT.out (Below.step (Below.step b1.out b2.out) b3.out))).mono ?_
 rintro e w4 ⟨rfl,b4⟩
 replace b4:=hid b4
 have hk4:=hcall_le hk3 HSZa b4.out;have hk4':=hk4;unfold Held0 at hk4';clear hHeld hk3
 refine hK.out _ _ ?_ (fun hHeld=>?_)
 · (try dsimp only);with_reducible exact hk4'
 clear hK K hk4';try simp only [Act.put,lt,ly,lu]
 refine tk (i:=5) (h:=?_)
 try simp only [Act.put,lt,ly,lu]
 refine tk (i:=6) (h:=?_)
 try simp only [Act.put,lt,ly,lu]
 refine tk (i:=8) (h:=?_)
 try simp only [Act.put,lt,ly,lu]
 refine tk (i:=9) (h:=?_)
 try simp only [Act.put,lt,ly,lu]
 refine wpAnyH_ready (rs:=[7]) (by kernel_rfl) (by simp) (AllReadyH.cons (o:=?oq10) ?eq10 ?kq10 AllReadyH.nil)
 case eq10=>simp only [lg,lz,ls];rfl
 intro K hK;go_simp;go_at_call 52
 refine (boxHi_any (hx.out.keep (Below.step (Below.step (Below.step b1.out b2.out) b3.out) b4.out)) (Nat.le_trans s2.out (by omega))).mono ?_
 rintro e w5 ⟨v5,rfl,hv5,b5⟩
 obtain ⟨C11,j11,C12,j12,rfl,-,-⟩:=id hv5.opened
 replace hv5:=hid hv5
 replace b5:=hid b5
 have hk5:=hcall_le hk4 HSZa b5.out;have hk5':=hk5;unfold Held0 at hk5';clear hHeld hk4
 refine hK.out _ _ ?_ (fun hHeld=>?_)
 · (try dsimp only);with_reducible exact hk5'
 clear hK K hk5';try simp only [Act.put,lt,ly,lu]
 refine wpAnyH_ready (rs:=[10]) (by kernel_rfl) (by simp) (AllReadyH.cons (o:=?oq11) ?eq11 ?kq11 AllReadyH.nil)
 case eq11=>simp only [lg,lz,ls];rfl
 intro K hK;go_simp;go_at_call 12
 refine (same_any hv5.out (hyh.out.keep (Below.step (Below.step (Below.step (Below.step b1.out b2.out) b3.out) b4.out) b5.out)) sb.out (tab_keep hT.out (Below.step (Below.step (Below.step (Below.step b1.out b2.out) b3.out) b4.out) b5.out))).mono ?_
 rintro e w6 ⟨rfl,b6⟩
 replace b6:=hid b6
 have hk6:=hcall_le hk5 HSZa b6.out;have hk6':=hk6;unfold Held0 at hk6';clear hHeld hk5
 refine hK.out _ _ ?_ (fun hHeld=>?_)
 · (try dsimp only);with_reducible exact hk6'
 clear hK K hk6';try simp only [Act.put,lt,ly,lu]
 refine tk (i:=11) (h:=?_)
 try simp only [Act.put,lt,ly,lu]
 refine tk (i:=12) (h:=?_)
 try simp only [Act.put,lt,ly,lu]
 have HE:=hid (Below.step (Below.step (Below.step (Below.step (Below.step b1.out b2.out) b3.out) b4.out) b5.out) b6.out)
 refine wpAnyH_done (by kernel_rfl) ?_ _
 clear hHeld
 go_wp2_with fail
 go_ret
 exact ⟨rfl,HE.out⟩
theorem none_any {w:World} {vx:Value} {a b:Rat} (ha:a=0) (hb:b=0) (hx:IsBox w vx a b) :
   Calls Tryz.prog 32 #[vx] w (BoolRet w true):=by
 have ea:a.num.sign=0:=by rw [ha];rfl
 have eb:b.num.sign=0:=by rw [hb];rfl
 have s1:siz a≤3:=by rw [ha];decide +kernel
 have s2:siz b≤3:=by rw [hb];decide +kernel
 clear ha hb
 replace ea:=hid ea
 replace eb:=hid eb
 replace s1:=hid s1
 replace s2:=hid s2
 obtain ⟨C1,j1,C2,j2,C3,j3,C4,j4,rfl,hxl,hxh⟩:=id hx.opened
 replace hx:=hid hx
 replace hxl:=hid hxl
 replace hxh:=hid hxh
 obtain ⟨w1,hw1⟩:=eX ((w.alloc (.cells #[.bool (decide (a.num<0)),.slice C1 (Vx.len a.num.natAbs) j1,.slice C2 (Vx.len (below a.den)) j2,.bool (decide (b.num<0)),.slice C3 (Vx.len b.num.natAbs) j3,.slice C4 (Vx.len (below b.den)) j4] 48)))
 have b1:=alloc_below w (.cells #[.bool (decide (a.num<0)),.slice C1 (Vx.len a.num.natAbs) j1,.slice C2 (Vx.len (below a.den)) j2,.bool (decide (b.num<0)),.slice C3 (Vx.len b.num.natAbs) j3,.slice C4 (Vx.len (below b.den)) j4] 48)
 have g1:=heap_alloc_new w (.cells #[.bool (decide (a.num<0)),.slice C1 (Vx.len a.num.natAbs) j1,.slice C2 (Vx.len (below a.den)) j2,.bool (decide (b.num<0)),.slice C3 (Vx.len b.num.natAbs) j3,.slice C4 (Vx.len (below b.den)) j4] 48)
 rw [←hw1] at b1 g1
 replace g1:=hid g1
 replace b1:=hid b1
 go_enter Tryz.func32,Tryz.ntmps32
 go_upto_region 1 with fail
 rw [←hw1]
 clear hw1
 have hg:w1.heap[w.heap.size]?=some (.cells #[.bool (decide (a.num<0)),.slice C1 (Vx.len a.num.natAbs) j1,.slice C2 (Vx.len (below a.den)) j2,.bool (decide (b.num<0)),.slice C3 (Vx.len b.num.natAbs) j3,.slice C4 (Vx.len (below b.den)) j4] 48 (0,0)):=((Below.refl _ w1).block _ (Array.getElem?_eq_some_iff.1 g1.out).1).trans g1.out
 obtain ⟨z_x_0,z_x_1,z_x_2,z_x_3,z_x_4,z_x_5⟩:=cells6 hg
 clear hg
 have HX:=hid (boxLo_any (hx.out.keep b1.out) (Nat.le_trans s1.out (by omega)))
 go_wp2_with fail
 refine (HX.out).mono ?_
 rintro e w2 ⟨v2,rfl,hv2,b2⟩
 obtain ⟨C5,j5,C6,j6,rfl,-,-⟩:=id hv2.opened
 replace hv2:=hid hv2
 replace b2:=hid b2
 clear HX
 clear z_x_0 z_x_1 z_x_2 z_x_3 z_x_4 z_x_5
 have HX:=hid (sign_val ea.out hv2.out)
 go_wp2_with fail
 refine (HX.out).mono ?_
 rintro e w3 ⟨rfl,b3⟩
 replace b3:=hid b3
 clear HX
 have hg:w3.heap[w.heap.size]?=some (.cells #[.bool (decide (a.num<0)),.slice C1 (Vx.len a.num.natAbs) j1,.slice C2 (Vx.len (below a.den)) j2,.bool (decide (b.num<0)),.slice C3 (Vx.len b.num.natAbs) j3,.slice C4 (Vx.len (below b.den)) j4] 48 (0,0)):=((Below.step b2.out b3.out).block _ (Array.getElem?_eq_some_iff.1 g1.out).1).trans g1.out
 obtain ⟨z_x_0,z_x_1,z_x_2,z_x_3,z_x_4,z_x_5⟩:=cells6 hg
 clear hg
 have HX:=hid (boxHi_any (hx.out.keep (Below.step (Below.step b1.out b2.out) b3.out)) (Nat.le_trans s2.out (by omega)))
 go_wp2_with fail
 refine (HX.out).mono ?_
 rintro e w4 ⟨v4,rfl,hv4,b4⟩
 obtain ⟨C7,j7,C8,j8,rfl,-,-⟩:=id hv4.opened
 replace hv4:=hid hv4
 replace b4:=hid b4
 clear HX
 clear z_x_0 z_x_1 z_x_2 z_x_3 z_x_4 z_x_5
 have HX:=hid (sign_val eb.out hv4.out)
 go_wp2_with fail
 refine (HX.out).mono ?_
 rintro e w5 ⟨rfl,b5⟩
 replace b5:=hid b5
 clear HX
 have HE:=hid (Below.step (Below.step (Below.step (Below.step b1.out b2.out) b3.out) b4.out) b5.out)
 go_wp2_with fail
 go_ret
 exact ⟨rfl,HE.out⟩
end Go.Proofs.YtlcimajjnfbidaaGreatDoor.Rf
namespace Go.Proofs.YtlcimajjnfbidaaGreatDoor.Rf
open Lib (hid)
open Go.RowKit
theorem newz1 {w u:World} {o:Obj} (h:u=w.alloc o):u.heap[w.heap.size]?=some o:=h ▸ heap_alloc_new w o
theorem newb1 {w u:World} {o:Obj} (h:u=w.alloc o):Below w.heap.size w u:=h ▸ alloc_below w o
theorem newz2 {w u:World} {o1 o2:Obj} (h:u=(w.alloc o1).alloc o2):Below w.heap.size w u∧u.heap[w.heap.size]?=some o1∧u.heap[w.heap.size+1]?=some o2:=h ▸ news2 w o1 o2
end Go.Proofs.YtlcimajjnfbidaaGreatDoor.Rf
