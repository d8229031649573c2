/-
  Contracts of the functions that the law calls, for every input (Ug Ya Yb Yc Yd Yl).
-/
import Derived.Test.YtlcimajjnfbidaaGreatDoorT01
set_option linter.all false
set_option maxRecDepth 100000
set_option maxHeartbeats 40000000
namespace Go.Proofs.YtlcimajjnfbidaaGreatDoor.Rf
open Lib (hid)
open Go.RowKit
open Rx
open Vx (siz siz_num siz_den)
open List renaming getElem?_toArray → lg, getElem?_cons_zero → lz, getElem?_cons_succ → ls, setIfInBounds_toArray → lt, set_cons_zero → ly, set_cons_succ → lu
theorem sum_long {w:World} {ad:Option Addr} {n c:Nat} {o:Rat} (ho:0=o) (h:200<n) (hn:n≤1000) :
   Calls Tryz.prog 9 #[.slice ad n c] w (NumErrRet w o 5):=by
 subst ho
 obtain ⟨w1,hw1⟩:=eX ((w.alloc (.cells #[.bool false,.slice none 0 0,.slice none 0 0] 31)))
 have b1:=alloc_below w (.cells #[.bool false,.slice none 0 0,.slice none 0 0] 31)
 have g1:=heap_alloc_new w (.cells #[.bool false,.slice none 0 0,.slice none 0 0] 31)
 rw [←hw1] at b1 g1
 have F0:=frozen_of_row w1 w.heap.size 0 _ _ g1
 have F1:=frozen_of_row w1 w.heap.size 1 _ _ g1
 have F2:=frozen_of_row w1 w.heap.size 2 _ _ g1
 obtain ⟨q0,q1,q2⟩:=cells3 g1
 obtain ⟨ue,hw⟩:=eX ((((w1.setCell ⟨w.heap.size,0,none⟩ (.bool false)).setCell ⟨w.heap.size,1,none⟩ (.slice none 0 0)).setCell ⟨w.heap.size,2,none⟩ (.slice none 0 0)))
 obtain ⟨E,-,LV,BL⟩:=stored3 g1 hw
 have FE:=hid (LV.num (zero_num w1))
 have FB:=hid (BL _ _ (Nat.le_refl _) b1)
 replace E:=hid E
 replace hw:=hid hw
 have i0:decide (((n:Nat):Int)>200)=true:=decide_eq_true (by omega)
 have i1:((n:Nat):Int)>200:=by omega
 clear b1 g1 LV BL h hn
 go_enter Tryz.func9,Tryz.ntmps9
 go_upto_region 1 with fail
 rw [←hw1]
 clear hw1
 go_wp2_with fail
 rw [←hw.out]
 obtain ⟨r0,r1,r2⟩:=cells3 E.out
 refine bodyPost_ret (v:=.tuple #[.agg #[.bool false,.slice none 0 0,.slice none 0 0],.int .i64 5]) ?_ rfl ⟨_,rfl,FE.out,FB.out⟩
 simp [results,Tryz.results9,go_sem,r0,r1,r2]
theorem dot_long1 {w:World} {ad1 ad2:Option Addr} {n c1 m c2:Nat} {o:Rat} (ho:0=o) (h:200<n) (hn:n≤1000) :
   Calls Tryz.prog 10 #[.slice ad1 n c1,.slice ad2 m c2] w (NumErrRet w o 5):=by
 subst ho
 obtain ⟨w1,hw1⟩:=eX ((w.alloc (.cells #[.bool false,.slice none 0 0,.slice none 0 0] 31)))
 have b1:=alloc_below w (.cells #[.bool false,.slice none 0 0,.slice none 0 0] 31)
 have g1:=heap_alloc_new w (.cells #[.bool false,.slice none 0 0,.slice none 0 0] 31)
 rw [←hw1] at b1 g1
 have F0:=frozen_of_row w1 w.heap.size 0 _ _ g1
 have F1:=frozen_of_row w1 w.heap.size 1 _ _ g1
 have F2:=frozen_of_row w1 w.heap.size 2 _ _ g1
 obtain ⟨q0,q1,q2⟩:=cells3 g1
 obtain ⟨ue,hw⟩:=eX ((((w1.setCell ⟨w.heap.size,0,none⟩ (.bool false)).setCell ⟨w.heap.size,1,none⟩ (.slice none 0 0)).setCell ⟨w.heap.size,2,none⟩ (.slice none 0 0)))
 obtain ⟨E,-,LV,BL⟩:=stored3 g1 hw
 have FE:=hid (LV.num (zero_num w1))
 have FB:=hid (BL _ _ (Nat.le_refl _) b1)
 replace E:=hid E
 replace hw:=hid hw
 have i0:decide (((n:Nat):Int)>200)=true:=decide_eq_true (by omega)
 have i1:((n:Nat):Int)>200:=by omega
 clear b1 g1 LV BL h hn
 go_enter Tryz.func10,Tryz.ntmps10
 go_upto_region 1 with fail
 rw [←hw1]
 clear hw1
 go_wp2_with fail
 rw [←hw.out]
 obtain ⟨r0,r1,r2⟩:=cells3 E.out
 refine bodyPost_ret (v:=.tuple #[.agg #[.bool false,.slice none 0 0,.slice none 0 0],.int .i64 5]) ?_ rfl ⟨_,rfl,FE.out,FB.out⟩
 simp [results,Tryz.results10,go_sem,r0,r1,r2]
theorem dot_long2 {w:World} {ad1 ad2:Option Addr} {n c1 m c2:Nat} {o:Rat} (ho:0=o) (h0:n≤200) (h:200<m) (hm:m≤1000) :
   Calls Tryz.prog 10 #[.slice ad1 n c1,.slice ad2 m c2] w (NumErrRet w o 5):=by
 subst ho
 obtain ⟨w1,hw1⟩:=eX ((w.alloc (.cells #[.bool false,.slice none 0 0,.slice none 0 0] 31)))
 have b1:=alloc_below w (.cells #[.bool false,.slice none 0 0,.slice none 0 0] 31)
 have g1:=heap_alloc_new w (.cells #[.bool false,.slice none 0 0,.slice none 0 0] 31)
 rw [←hw1] at b1 g1
 have F0:=frozen_of_row w1 w.heap.size 0 _ _ g1
 have F1:=frozen_of_row w1 w.heap.size 1 _ _ g1
 have F2:=frozen_of_row w1 w.heap.size 2 _ _ g1
 obtain ⟨q0,q1,q2⟩:=cells3 g1
 obtain ⟨ue,hw⟩:=eX ((((w1.setCell ⟨w.heap.size,0,none⟩ (.bool false)).setCell ⟨w.heap.size,1,none⟩ (.slice none 0 0)).setCell ⟨w.heap.size,2,none⟩ (.slice none 0 0)))
 obtain ⟨E,-,LV,BL⟩:=stored3 g1 hw
 have FE:=hid (LV.num (zero_num w1))
 have FB:=hid (BL _ _ (Nat.le_refl _) b1)
 replace E:=hid E
 replace hw:=hid hw
 have i0:decide (((n:Nat):Int)>200)=false:=decide_eq_false (by omega)
 have i1:¬ ((n:Nat):Int)>200:=by omega
 have i2:decide (((m:Nat):Int)>200)=true:=decide_eq_true (by omega)
 have i3:((m:Nat):Int)>200:=by omega
 clear b1 g1 LV BL h0 h hm
 go_enter Tryz.func10,Tryz.ntmps10
 go_upto_region 1 with fail
 rw [←hw1]
 clear hw1
 go_wp2_with fail
 rw [←hw.out]
 obtain ⟨r0,r1,r2⟩:=cells3 E.out
 refine bodyPost_ret (v:=.tuple #[.agg #[.bool false,.slice none 0 0,.slice none 0 0],.int .i64 5]) ?_ rfl ⟨_,rfl,FE.out,FB.out⟩
 simp [results,Tryz.results10,go_sem,r0,r1,r2]
theorem dot_arg {w:World} {ad1 ad2:Option Addr} {n c1 m c2:Nat} {o:Rat} (ho:0=o) (h0:n≤200) (h:m≤200) (hne:n≠m) :
   Calls Tryz.prog 10 #[.slice ad1 n c1,.slice ad2 m c2] w (NumErrRet w o 2):=by
 subst ho
 obtain ⟨w1,hw1⟩:=eX ((w.alloc (.cells #[.bool false,.slice none 0 0,.slice none 0 0] 31)))
 have b1:=alloc_below w (.cells #[.bool false,.slice none 0 0,.slice none 0 0] 31)
 have g1:=heap_alloc_new w (.cells #[.bool false,.slice none 0 0,.slice none 0 0] 31)
 rw [←hw1] at b1 g1
 have F0:=frozen_of_row w1 w.heap.size 0 _ _ g1
 have F1:=frozen_of_row w1 w.heap.size 1 _ _ g1
 have F2:=frozen_of_row w1 w.heap.size 2 _ _ g1
 obtain ⟨q0,q1,q2⟩:=cells3 g1
 obtain ⟨ue,hw⟩:=eX ((((w1.setCell ⟨w.heap.size,0,none⟩ (.bool false)).setCell ⟨w.heap.size,1,none⟩ (.slice none 0 0)).setCell ⟨w.heap.size,2,none⟩ (.slice none 0 0)))
 obtain ⟨E,-,LV,BL⟩:=stored3 g1 hw
 have FE:=hid (LV.num (zero_num w1))
 have FB:=hid (BL _ _ (Nat.le_refl _) b1)
 replace E:=hid E
 replace hw:=hid hw
 have i0:decide (((n:Nat):Int)>200)=false:=decide_eq_false (by omega)
 have i1:¬ ((n:Nat):Int)>200:=by omega
 have i2:decide (((m:Nat):Int)>200)=false:=decide_eq_false (by omega)
 have i3:¬ ((m:Nat):Int)>200:=by omega
 have i4:(((n:Nat):Int)==((m:Nat):Int))=false:=by simpa using (show ¬ ((n:Nat):Int)=((m:Nat):Int) by omega)
 have i5:¬ ((n:Nat):Int)=((m:Nat):Int):=by omega
 clear b1 g1 LV BL h0 h hne
 go_enter Tryz.func10,Tryz.ntmps10
 go_upto_region 1 with fail
 rw [←hw1]
 clear hw1
 go_wp2_with fail
 rw [←hw.out]
 obtain ⟨r0,r1,r2⟩:=cells3 E.out
 refine bodyPost_ret (v:=.tuple #[.agg #[.bool false,.slice none 0 0,.slice none 0 0],.int .i64 2]) ?_ rfl ⟨_,rfl,FE.out,FB.out⟩
 simp [results,Tryz.results10,go_sem,r0,r1,r2]
def SumAt (w:World) (b1 o1 B:Nat) (l:List Rat) (k:Nat) (wr:World):Prop :=
  ∃ s1 A1 n1 c1 A2 n2 c2,wr.heap[B]?=some (.cells #[.bool s1,.slice A1 n1 c1,.slice A2 n2 c2] 31 (0,0))∧IsNum wr (.agg #[.bool s1,.slice A1 n1 c1,.slice A2 n2 c2]) (sumL (l.take k)) ∧
    NumsAt wr b1 o1 l∧wr.heap[w.heap.size]?=some (.cells #[.bool false,.slice none 0 0,.slice none 0 0] 31 (0,0))∧Below w.heap.size w wr∧w.heap.size<B
theorem sum_any {w:World} {b1_ o1 c1_:Nat} {l:List Rat} {s:Rat} (es:sumL l=s) (hl:NumsAt w b1_ o1 l) (hn:l.length≤200) (hs:∀ y∈l,siz y≤100000) :
   Calls Tryz.prog 9 #[.slice (some ⟨b1_,o1,none⟩) l.length c1_] w (NumErrRet w s 0):=by
 have HS:=hid (sumL_siz hs)
 have HQ:=hid (fun q (hq:q∈l)=>hs q hq)
 clear hs
 replace es:=hid es
 replace hl:=hid hl
 have i0:decide (((l.length:Nat):Int)>200)=false:=decide_eq_false (by omega)
 have i9:¬ ((l.length:Nat):Int)>200:=by omega
 obtain ⟨w1,hw1⟩:=eX ((w.alloc (.cells #[.bool false,.slice none 0 0,.slice none 0 0] 31)))
 have b1:=alloc_below w (.cells #[.bool false,.slice none 0 0,.slice none 0 0] 31)
 have g1:=heap_alloc_new w (.cells #[.bool false,.slice none 0 0,.slice none 0 0] 31)
 rw [←hw1] at b1 g1
 replace b1:=hid b1
 replace g1:=hid g1
 go_enter Tryz.func9,Tryz.ntmps9
 go_upto_region 1 with fail
 rw [←hw1]
 clear hw1
 go_upto_region 4 with fail
 obtain ⟨w2,hw2⟩:=eX ((w1.alloc (.cells #[.bool false,.slice none 0 0,.slice none 0 0] 31)))
 have b2:=hid (newb1 hw2)
 have L2:=hid (newz1 hw2)
 rw [←hw2]
 clear hw2
 obtain ⟨B,hB⟩:=eY w1.heap.size
 have hGB:w.heap.size<B:=by rw [←hB];exact at_lt g1.out
 have HE:Hid (SumAt w b1_ o1 B l 0 w2):=hid ⟨_,_,_,_,_,_,_,by rw [←hB];exact L2.out,zero_num w2,hl.out.keep (Below.step b1.out b2.out),at_keep g1.out b2.out,Below.step b1.out b2.out,hGB⟩
 rw [hB]
 clear hB L2 g1
 have hb1:l.length=0∨b1_<w.heap.size:=by
   rcases Nat.eq_zero_or_pos l.length with h | h
   · exact Or.inl h
   · obtain ⟨_,_,_,_,_,_,_,y0,_⟩:=hl.out 0 l[0] (by simp [h]);exact Or.inr (World.block_lt_of_cell? w _ y0)
 clear hl
 go_wp2_with fail
 go_loopw [13] (fun iv wr=>∃ k:Nat,k≤l.length∧iv=.int .i64 ((k:Nat):Int)∧Hid (SumAt w b1_ o1 B l k wr)) (fun iv _=>l.length - (intOf iv).toNat)
 case atStart=>exact ⟨0,Nat.zero_le _,rfl,HE⟩
 case round =>
   obtain ⟨k,hk,rfl,hrel⟩:=hrel
   clear HE
   obtain ⟨s1,A1,n1,c1,A2,n2,c2,g5,hv,hR1,gR,hbw,-⟩:=hrel.out
   clear hrel
   obtain ⟨a,ha⟩:=eY (sumL (l.take k))
   have ta:=HS.out k
   rw [ha] at hv ta
   rcases Nat.lt_or_ge k l.length with hkn | hkn
   · obtain ⟨x,hx⟩:∃ q,l[k]?=some q:=⟨l[k],by simp [hkn]⟩
     have tx:=HQ.out x (List.mem_of_getElem? hx)
     have E1:=sumL_step hx
     rw [ha] at E1
     obtain ⟨a2,ea2⟩:=eY (sumL (l.take (k+1)))
     rw [ea2] at E1
     have tA:siz a≤536870912:=by
       have:=Nat.mul_le_mul_right (100000+1) (show k≤200 by omega)
       omega
     have tX:siz x≤536870912:=by omega
     obtain ⟨s5,A5,n5,c5,A6,n6,c6,y0,y1,y2,hxq⟩:=hR1 k x hx
     obtain ⟨u,hu⟩:=eY (o1+k*3)
     rw [hu] at y0 y1 y2
     have hBl:B<wr.heap.size:=at_lt g5
     have hin:decide (k<l.length)=true:=decide_eq_true hkn
     clear ha ta tx hx
     replace hv:=hid hv
     replace hxq:=hid hxq
     replace g5:=hid g5
     replace hR1:=hid hR1
     replace gR:=hid gR
     replace hbw:=hid hbw
     replace E1:=hid E1
     replace ea2:=hid ea2
     replace tA:=hid tA
     replace tX:=hid tX
     go_upto_region 7 with fail
     obtain ⟨w91,hw91⟩:=eX (wr.alloc (.cells #[.bool s5,.slice A5 n5 c5,.slice A6 n6 c6] 31))
     have b91:=hid (newb1 hw91)
     have L91:=hid (newz1 hw91)
     rw [←hw91]
     clear hw91
     obtain ⟨x0,x1,x2⟩:=cells3 L91.out
     obtain ⟨q0,q1,q2⟩:=cells3 (at_keep g5.out b91.out)
     have HX:=hid (add_val E1.out (hv.out.keep b91.out) (hxq.out.keep b91.out) tA.out tX.out)
     go_wp2_with fail
     refine (HX.out).mono ?_
     rintro e w92 ⟨v92,rfl,hv92,b92⟩
     obtain ⟨C1,j1,C2,j2,rfl,-,-⟩:=id hv92.opened
     replace hv92:=hid hv92
     replace b92:=hid b92
     clear HX q0 q1 q2 x0 x1 x2 y0 y1 y2
     have kb:=hid (Below.step b91.out b92.out)
     have DB:=at_keep g5.out kb.out
     have q0:=cell_of_row _ _ 0 _ _ _ DB
     have q1:=cell_of_row _ _ 1 _ _ _ DB
     have q2:=cell_of_row _ _ 2 _ _ _ DB
     have F0:=frozen_of_row w92 B 0 _ _ DB
     have F1:=frozen_of_row w92 B 1 _ _ DB
     have F2:=frozen_of_row w92 B 2 _ _ DB
     simp only [lg,lz,ls] at q0 q1 q2
     obtain ⟨ue,hw⟩:=eX ((((w92.setCell ⟨B,0,none⟩ (.bool (decide (a2.num<0)))).setCell ⟨B,1,none⟩ (.slice C1 (Vx.len a2.num.natAbs) j1)).setCell ⟨B,2,none⟩ (.slice C2 (Vx.len (below a2.den)) j2)))
     obtain ⟨E,OT,LV,BL⟩:=stored3 DB hw
     have FIN:Hid (SumAt w b1_ o1 B l (k+1) ue):=hid ⟨_,_,_,_,_,_,_,E,by rw [ea2.out];exact LV.num hv92.out,(hR1.out.keep kb.out).stay (by omega) OT LV,OT _ _ (by omega) (at_keep gR.out kb.out),BL _ _ (by omega) (chain hbw.out kb.out),hGB⟩
     clear DB E OT LV BL L91 b91 b92 hv92 kb
     replace hw:=hid hw
     go_wp2_with fail
     rw [←hw.out]
     clear hw q0 q1 q2 F0 F1 F2
     go_roundw
     case rel=>exact ⟨k+1,hkn,by go_num,FIN⟩
     case measure=>simp [intOf];omega
   · obtain rfl:k=l.length:=Nat.le_antisymm hk hkn
     rw [List.take_length] at ha
     have hm2:=ha.symm.trans es.out
     subst hm2
     obtain ⟨z0,z1,z2⟩:=cells3 g5
     have q0:=cell_of_row _ _ 0 _ _ _ gR
     have q1:=cell_of_row _ _ 1 _ _ _ gR
     have q2:=cell_of_row _ _ 2 _ _ _ gR
     have F0:=frozen_of_row wr w.heap.size 0 _ _ gR
     have F1:=frozen_of_row wr w.heap.size 1 _ _ gR
     have F2:=frozen_of_row wr w.heap.size 2 _ _ gR
     simp only [lg,lz,ls] at q0 q1 q2
     obtain ⟨ue,hw⟩:=eX ((((wr.setCell ⟨w.heap.size,0,none⟩ (.bool s1)).setCell ⟨w.heap.size,1,none⟩ (.slice A1 n1 c1)).setCell ⟨w.heap.size,2,none⟩ (.slice A2 n2 c2)))
     obtain ⟨E,-,LV,BL⟩:=stored3 gR hw
     have FE:=hid (LV.num hv)
     have FB:=hid (BL _ _ (Nat.le_refl _) hbw)
     replace E:=hid E
     replace hw:=hid hw
     clear ha es HS HQ hv hR1 gR hbw g5 BL LV ta
     go_wp2_with fail
     rw [←hw.out]
     obtain ⟨r0,r1,r2⟩:=cells3 E.out
     refine bodyPost_ret (v:=.tuple #[.agg #[.bool s1,.slice A1 n1 c1,.slice A2 n2 c2],.int .i64 0]) ?_ rfl ⟨_,rfl,FE.out,FB.out⟩
     simp [results,Tryz.results9,go_sem,r0,r1,r2]
end Go.Proofs.YtlcimajjnfbidaaGreatDoor.Rf
namespace Go.Proofs.YtlcimajjnfbidaaGreatDoor.Rf
open Lib (hid)
open Go.RowKit
open Rx
open Vx (siz siz_num siz_den)
open List renaming getElem?_toArray → lg, getElem?_cons_zero → lz, getElem?_cons_succ → ls, setIfInBounds_toArray → lt, set_cons_zero → ly, set_cons_succ → lu
structure Cx (w wa:World) (mx:Int) (L M:List Rat) (g1 g2 g3 g4 bs bd:Nat) (S1 S2 D1 D2:Option Addr) (i1 i2 i3 i4:Nat) (s d:Rat):Prop where
  np:NumsAt wa g1 0 L
  rp:RatsIn wa g2 0 L
  nq:NumsAt wa g3 0 M
  rq:RatsIn wa g4 0 M
  rs:wa.heap[bs]?=some (.cells #[.bool (decide (s.num<0)),.slice S1 (Vx.len s.num.natAbs) i1,.slice S2 (Vx.len (below s.den)) i2] 31 (0,0))
  ns:IsNum wa (.agg #[.bool (decide (s.num<0)),.slice S1 (Vx.len s.num.natAbs) i1,.slice S2 (Vx.len (below s.den)) i2]) s
  rd:wa.heap[bd]?=some (.cells #[.bool (decide (d.num<0)),.slice D1 (Vx.len d.num.natAbs) i3,.slice D2 (Vx.len (below d.den)) i4] 31 (0,0))
  nd:IsNum wa (.agg #[.bool (decide (d.num<0)),.slice D1 (Vx.len d.num.natAbs) i3,.slice D2 (Vx.len (below d.den)) i4]) d
  hM:wa.cell? ⟨1,0,none⟩=some (.int .i64 mx)
  hT:TabAt 0 Lib.deBruijn64tab wa
  hB:Below w.heap.size w wa
theorem Cx.keep {w wa:World} {mx:Int} {L M:List Rat} {g1 g2 g3 g4 bs bd:Nat} {s d:Rat} {S1 S2 D1 D2:Option Addr} {i1 i2 i3 i4:Nat} {v:World} (h:Cx w wa mx L M g1 g2 g3 g4 bs bd S1 S2 D1 D2 i1 i2 i3 i4 s d) (hb:Below wa.heap.size wa v):Cx w v mx L M g1 g2 g3 g4 bs bd S1 S2 D1 D2 i1 i2 i3 i4 s d :=
 ⟨h.np.keep hb,h.rp.keep hb,h.nq.keep hb,h.rq.keep hb,at_keep h.rs hb,h.ns.keep hb,at_keep h.rd hb,h.nd.keep hb,cell_keep h.hM hb,tab_keep h.hT hb,chain h.hB hb⟩
theorem prods_ones (l:List Rat):prods l (List.replicate l.length 1)=l:=by
 unfold prods
 induction l with
 | nil=>rfl
 | cons x l ih=>rw [List.length_cons,List.replicate_succ,List.zipWith_cons_cons,ih,Rat.mul_one]
theorem dotR_val {w:World} {b1 o1 c1 b2 o2 c2 n1 n2:Nat} {l m:List Rat} {s:Rat} (e1:l.length=n1) (e2:m.length=n2) (es:sumL (prods l m)=s) (hl:RatsIn w b1 o1 l) (hm:RatsIn w b2 o2 m) (hlen:n1=n2) (hn:n1≤1000) (hs:∀ y∈l,siz y≤100000) (ht:∀ y∈m,siz y≤100000) :
   Calls Tryz.prog 14 #[.slice (some ⟨b1,o1,none⟩) n1 c1,.slice (some ⟨b2,o2,none⟩) n2 c2] w (RatRet w s):=by
 subst e1 e2
 exact dotR_any es hl hm hlen hn hs ht
theorem sum_val {w:World} {b o c n:Nat} {l:List Rat} {s:Rat} {e:Int} (e1:l.length=n) (es:(if 200<n then 0 else sumL l)=s) (ee:(if 200<n then 5 else 0)=e) (hl:NumsAt w b o l) (hn:n≤1000) (hs:∀ y∈l,siz y≤100000) :
   Calls Tryz.prog 9 #[.slice (some ⟨b,o,none⟩) n c] w (NumErrRet w s e):=by
 subst e1
 split at es
 · rename_i h
   rw [if_pos h] at ee
   rw [←ee]
   exact sum_long es h hn
 · rename_i h
   rw [if_neg h] at ee
   rw [←ee]
   exact sum_any es hl (by omega) hs
theorem dot_val {w:World} {b1 o1 c1 b2 o2 c2 n1 n2:Nat} {l m:List Rat} {s:Rat} {e:Int} (e1:l.length=n1) (e2:m.length=n2) (es:(if 200<n1∨200<n2 then 0 else if n1=n2 then sumL (prods l m) else 0)=s) (ee:(if 200<n1∨200<n2 then 5 else if n1=n2 then 0 else 2)=e)
   (hl:NumsAt w b1 o1 l) (hm:NumsAt w b2 o2 m) (hn:n1≤1000) (hn2:n2≤1000) (hs:∀ y∈l,siz y≤100000) (ht:∀ y∈m,siz y≤100000) :
   Calls Tryz.prog 10 #[.slice (some ⟨b1,o1,none⟩) n1 c1,.slice (some ⟨b2,o2,none⟩) n2 c2] w (NumErrRet w s e):=by
 subst e1 e2
 rcases Decidable.em (200<l.length) with h | h
 · rw [if_pos (Or.inl h)] at es ee
   rw [←ee]
   exact dot_long1 es h hn
 · rcases Decidable.em (200<m.length) with k | k
   · rw [if_pos (Or.inr k)] at es ee
     rw [←ee]
     exact dot_long2 es (by omega) k hn2
   · rw [if_neg (by omega)] at es ee
     rcases Decidable.em (l.length=m.length) with j | j
     · rw [if_pos j] at es ee
       rw [←ee]
       exact dot_any es hl hm j (by omega) hs ht
     · rw [if_neg j] at es ee
       rw [←ee]
       exact dot_arg es (by omega) (by omega) j
end Go.Proofs.YtlcimajjnfbidaaGreatDoor.Rf
namespace Go.Proofs.YtlcimajjnfbidaaGreatDoor.Rf
open Lib (hid)
open Go.RowKit
open Rx
open Vx (siz siz_num siz_den)
open List renaming getElem?_toArray → lg, getElem?_cons_zero → lz, getElem?_cons_succ → ls, setIfInBounds_toArray → lt, set_cons_zero → ly, set_cons_succ → lu
theorem sums_end_long1 {w wa:World} {mx:Int} {L M:List Rat} {n1 n2:Nat} {ad1 ad2:Option Addr} {c1 c2 g1 k1 g2 k2 g3 k3 g4 k4 bs bd:Nat} {s d:Rat} {S1 S2 D1 D2:Option Addr} {i1 i2 i3 i4:Nat}  {y2 y3 y4 y7 y10 y12 y15 y16 y17 y18 y19 y20 y21 y22 y23 y24 y25 y26 y27 y28 y29 y30 y31 y32 y33 y34 y35 y36 y37 y38 y39 y40 y41 y42 y43 y44 y45 y46 y47 y48 y49 y50 y51 y52 y53 y54 y55 y56 y57 y58 y59 y60 y61 y62 y63 y64 y65 y66 y67 y68 y69 y70 y71 y72 y73 y74 y75 y76 y77 y78 y79 y80 y81 y82 y83 y84 y85 y86 y87 y88 y89 y90 y91 y92 y93 y94 y95 y96 y97 y98 y99 y100 y101 y102 y103 y104 y105 y106 y107 y108 y109 y110 y111 y112 y113 y114 y115 y116 y117 y118 y119 y120 y121 y122 y123 y124 y125 y126 y127 y128 y129 y130 y131 y132 y133 y134:Value} (HC:Cx w wa mx L M g1 g2 g3 g4 bs bd S1 S2 D1 D2 i1 i2 i3 i4 s d) (h1:200<n1) (hd:d=0) :
   (codeAt 9 Tryz.f3).wp Tryz.prog (bodyPost Tryz.prog Tryz.f3 (BoolRet w true)) { tmps:=#[.slice ad1 n1 c1,.slice ad2 n2 c2,y2,y3,y4,.slice (some ⟨g1,0,none⟩) n1 k1,.slice (some ⟨g2,0,none⟩) n1 k2,y7,.slice (some ⟨g3,0,none⟩) n2 k3,.slice (some ⟨g4,0,none⟩) n2 k4,y10,.pointer (some ⟨bs,0,none⟩),y12,.pointer (some ⟨bd,0,none⟩),.int .i64 5,y15,y16,y17,y18,y19,y20,y21,y22,y23,y24,y25,y26,y27,y28,y29,y30,y31,y32,y33,y34,y35,y36,y37,y38,y39,y40,y41,y42,y43,y44,y45,y46,y47,y48,y49,y50,y51,y52,y53,y54,y55,y56,y57,y58,y59,y60,y61,y62,y63,y64,y65,y66,y67,y68,y69,y70,y71,y72,y73,y74,y75,y76,y77,y78,y79,y80,y81,y82,y83,y84,y85,y86,y87,y88,y89,y90,y91,y92,y93,y94,y95,y96,y97,y98,y99,y100,y101,y102,y103,y104,y105,y106,y107,y108,y109,y110,y111,y112,y113,y114,y115,y116,y117,y118,y119,y120,y121,y122,y123,y124,y125,y126,y127,y128,y129,y130,y131,y132,y133,y134],defers:=[] } wa:=by
 replace HC:=hid HC
 have d1:decide (((n1:Nat):Int)>200)=true:=decide_eq_true (by omega)
 have d1':(((n1:Nat):Int)>200):=by omega
 have ys:d.num.sign=0:=by rw [hd];rfl
 replace ys:=hid ys
 clear hd h1
 show Code.wp _ (Code.seq _ _) _ _ _
 go_upto_region 20 with fail
 obtain ⟨q0,q1,q2⟩:=cells3 HC.out.rd
 have HX:=hid (sign_val ys.out HC.out.nd)
 go_wp2_with fail
 refine (HX.out).mono ?_
 rintro e w1 ⟨rfl,b1⟩
 replace b1:=hid b1
 clear HX
 clear q0 q1 q2
 have HX:=hid (known_any (HC.out.keep b1.out).hM (HC.out.keep b1.out).hT)
 go_wp2_with fail
 refine (HX.out).mono ?_
 rintro e w2 ⟨rfl,b2⟩
 replace b2:=hid b2
 clear HX
 have y0_2:=hid (Below.step b1.out b2.out)
 have HE:=hid (HC.out.keep y0_2.out).hB
 go_wp2_with fail
 go_ret
 exact ⟨rfl,HE.out⟩
theorem sums_end_long2 {w wa:World} {mx:Int} {L M:List Rat} {n1 n2:Nat} {ad1 ad2:Option Addr} {c1 c2 g1 k1 g2 k2 g3 k3 g4 k4 bs bd:Nat} {s d:Rat} {S1 S2 D1 D2:Option Addr} {i1 i2 i3 i4:Nat}  {y2 y3 y4 y7 y10 y12 y15 y16 y17 y18 y19 y20 y21 y22 y23 y24 y25 y26 y27 y28 y29 y30 y31 y32 y33 y34 y35 y36 y37 y38 y39 y40 y41 y42 y43 y44 y45 y46 y47 y48 y49 y50 y51 y52 y53 y54 y55 y56 y57 y58 y59 y60 y61 y62 y63 y64 y65 y66 y67 y68 y69 y70 y71 y72 y73 y74 y75 y76 y77 y78 y79 y80 y81 y82 y83 y84 y85 y86 y87 y88 y89 y90 y91 y92 y93 y94 y95 y96 y97 y98 y99 y100 y101 y102 y103 y104 y105 y106 y107 y108 y109 y110 y111 y112 y113 y114 y115 y116 y117 y118 y119 y120 y121 y122 y123 y124 y125 y126 y127 y128 y129 y130 y131 y132 y133 y134:Value} (HC:Cx w wa mx L M g1 g2 g3 g4 bs bd S1 S2 D1 D2 i1 i2 i3 i4 s d) (h1:n1≤200) (h2:200<n2) (hd:d=0) :
   (codeAt 9 Tryz.f3).wp Tryz.prog (bodyPost Tryz.prog Tryz.f3 (BoolRet w true)) { tmps:=#[.slice ad1 n1 c1,.slice ad2 n2 c2,y2,y3,y4,.slice (some ⟨g1,0,none⟩) n1 k1,.slice (some ⟨g2,0,none⟩) n1 k2,y7,.slice (some ⟨g3,0,none⟩) n2 k3,.slice (some ⟨g4,0,none⟩) n2 k4,y10,.pointer (some ⟨bs,0,none⟩),y12,.pointer (some ⟨bd,0,none⟩),.int .i64 5,y15,y16,y17,y18,y19,y20,y21,y22,y23,y24,y25,y26,y27,y28,y29,y30,y31,y32,y33,y34,y35,y36,y37,y38,y39,y40,y41,y42,y43,y44,y45,y46,y47,y48,y49,y50,y51,y52,y53,y54,y55,y56,y57,y58,y59,y60,y61,y62,y63,y64,y65,y66,y67,y68,y69,y70,y71,y72,y73,y74,y75,y76,y77,y78,y79,y80,y81,y82,y83,y84,y85,y86,y87,y88,y89,y90,y91,y92,y93,y94,y95,y96,y97,y98,y99,y100,y101,y102,y103,y104,y105,y106,y107,y108,y109,y110,y111,y112,y113,y114,y115,y116,y117,y118,y119,y120,y121,y122,y123,y124,y125,y126,y127,y128,y129,y130,y131,y132,y133,y134],defers:=[] } wa:=by
 replace HC:=hid HC
 have d1:decide (((n1:Nat):Int)>200)=false:=decide_eq_false (by omega)
 have d1':¬ (((n1:Nat):Int)>200):=by omega
 have d2:decide (((n2:Nat):Int)>200)=true:=decide_eq_true (by omega)
 have d2':(((n2:Nat):Int)>200):=by omega
 have ys:d.num.sign=0:=by rw [hd];rfl
 replace ys:=hid ys
 clear hd h1 h2
 show Code.wp _ (Code.seq _ _) _ _ _
 go_upto_region 20 with fail
 obtain ⟨q0,q1,q2⟩:=cells3 HC.out.rd
 have HX:=hid (sign_val ys.out HC.out.nd)
 go_wp2_with fail
 refine (HX.out).mono ?_
 rintro e w1 ⟨rfl,b1⟩
 replace b1:=hid b1
 clear HX
 clear q0 q1 q2
 have HX:=hid (known_any (HC.out.keep b1.out).hM (HC.out.keep b1.out).hT)
 go_wp2_with fail
 refine (HX.out).mono ?_
 rintro e w2 ⟨rfl,b2⟩
 replace b2:=hid b2
 clear HX
 have y0_2:=hid (Below.step b1.out b2.out)
 have HE:=hid (HC.out.keep y0_2.out).hB
 go_wp2_with fail
 go_ret
 exact ⟨rfl,HE.out⟩
theorem sums_end_arg {w wa:World} {mx:Int} {L M:List Rat} {n1 n2:Nat} {ad1 ad2:Option Addr} {c1 c2 g1 k1 g2 k2 g3 k3 g4 k4 bs bd:Nat} {s d:Rat} {S1 S2 D1 D2:Option Addr} {i1 i2 i3 i4:Nat}  {y2 y3 y4 y7 y10 y12 y15 y16 y17 y18 y19 y20 y21 y22 y23 y24 y25 y26 y27 y28 y29 y30 y31 y32 y33 y34 y35 y36 y37 y38 y39 y40 y41 y42 y43 y44 y45 y46 y47 y48 y49 y50 y51 y52 y53 y54 y55 y56 y57 y58 y59 y60 y61 y62 y63 y64 y65 y66 y67 y68 y69 y70 y71 y72 y73 y74 y75 y76 y77 y78 y79 y80 y81 y82 y83 y84 y85 y86 y87 y88 y89 y90 y91 y92 y93 y94 y95 y96 y97 y98 y99 y100 y101 y102 y103 y104 y105 y106 y107 y108 y109 y110 y111 y112 y113 y114 y115 y116 y117 y118 y119 y120 y121 y122 y123 y124 y125 y126 y127 y128 y129 y130 y131 y132 y133 y134:Value} (HC:Cx w wa mx L M g1 g2 g3 g4 bs bd S1 S2 D1 D2 i1 i2 i3 i4 s d) (h1:n1≤200) (h2:n2≤200) (h3:n1≠n2) (hd:d=0) :
   (codeAt 9 Tryz.f3).wp Tryz.prog (bodyPost Tryz.prog Tryz.f3 (BoolRet w true)) { tmps:=#[.slice ad1 n1 c1,.slice ad2 n2 c2,y2,y3,y4,.slice (some ⟨g1,0,none⟩) n1 k1,.slice (some ⟨g2,0,none⟩) n1 k2,y7,.slice (some ⟨g3,0,none⟩) n2 k3,.slice (some ⟨g4,0,none⟩) n2 k4,y10,.pointer (some ⟨bs,0,none⟩),y12,.pointer (some ⟨bd,0,none⟩),.int .i64 2,y15,y16,y17,y18,y19,y20,y21,y22,y23,y24,y25,y26,y27,y28,y29,y30,y31,y32,y33,y34,y35,y36,y37,y38,y39,y40,y41,y42,y43,y44,y45,y46,y47,y48,y49,y50,y51,y52,y53,y54,y55,y56,y57,y58,y59,y60,y61,y62,y63,y64,y65,y66,y67,y68,y69,y70,y71,y72,y73,y74,y75,y76,y77,y78,y79,y80,y81,y82,y83,y84,y85,y86,y87,y88,y89,y90,y91,y92,y93,y94,y95,y96,y97,y98,y99,y100,y101,y102,y103,y104,y105,y106,y107,y108,y109,y110,y111,y112,y113,y114,y115,y116,y117,y118,y119,y120,y121,y122,y123,y124,y125,y126,y127,y128,y129,y130,y131,y132,y133,y134],defers:=[] } wa:=by
 replace HC:=hid HC
 have d1:decide (((n1:Nat):Int)>200)=false:=decide_eq_false (by omega)
 have d1':¬ (((n1:Nat):Int)>200):=by omega
 have d2:decide (((n2:Nat):Int)>200)=false:=decide_eq_false (by omega)
 have d2':¬ (((n2:Nat):Int)>200):=by omega
 have i4:(((n1:Nat):Int)==((n2:Nat):Int))=false:=by simpa using (show ¬ ((n1:Nat):Int)=((n2:Nat):Int) by omega)
 have i5:¬ ((n1:Nat):Int)=((n2:Nat):Int):=by omega
 have ys:d.num.sign=0:=by rw [hd];rfl
 replace ys:=hid ys
 clear hd h1 h2 h3
 show Code.wp _ (Code.seq _ _) _ _ _
 go_upto_region 22 with fail
 obtain ⟨q0,q1,q2⟩:=cells3 HC.out.rd
 have HX:=hid (sign_val ys.out HC.out.nd)
 go_wp2_with fail
 refine (HX.out).mono ?_
 rintro e w1 ⟨rfl,b1⟩
 replace b1:=hid b1
 clear HX
 clear q0 q1 q2
 have HX:=hid (known_any (HC.out.keep b1.out).hM (HC.out.keep b1.out).hT)
 go_wp2_with fail
 refine (HX.out).mono ?_
 rintro e w2 ⟨rfl,b2⟩
 replace b2:=hid b2
 clear HX
 have y0_2:=hid (Below.step b1.out b2.out)
 have HE:=hid (HC.out.keep y0_2.out).hB
 go_wp2_with fail
 go_ret
 exact ⟨rfl,HE.out⟩
theorem sums_end_ok {w wa:World} {mx:Int} {L M:List Rat} {n1:Nat} {ad1 ad2:Option Addr} {c1 c2 g1 k1 g2 k2 g3 k3 g4 k4 bs bd:Nat} {s d:Rat} {S1 S2 D1 D2:Option Addr} {i1 i2 i3 i4:Nat}  {y2 y3 y4 y7 y10 y12 y15 y16 y17 y18 y19 y20 y21 y22 y23 y24 y25 y26 y27 y28 y29 y30 y31 y32 y33 y34 y35 y36 y37 y38 y39 y40 y41 y42 y43 y44 y45 y46 y47 y48 y49 y50 y51 y52 y53 y54 y55 y56 y57 y58 y59 y60 y61 y62 y63 y64 y65 y66 y67 y68 y69 y70 y71 y72 y73 y74 y75 y76 y77 y78 y79 y80 y81 y82 y83 y84 y85 y86 y87 y88 y89 y90 y91 y92 y93 y94 y95 y96 y97 y98 y99 y100 y101 y102 y103 y104 y105 y106 y107 y108 y109 y110 y111 y112 y113 y114 y115 y116 y117 y118 y119 y120 y121 y122 y123 y124 y125 y126 y127 y128 y129 y130 y131 y132 y133 y134:Value} (HC:Cx w wa mx L M g1 g2 g3 g4 bs bd S1 S2 D1 D2 i1 i2 i3 i4 s d) (h1:n1≤20) (eL:L.length=n1) (eM:M.length=n1) (hd:sumL (prods L M)=d) (sL:∀ y∈L,siz y≤100000) (sM:∀ y∈M,siz y≤100000) (sd:siz d≤4100) :
   (codeAt 9 Tryz.f3).wp Tryz.prog (bodyPost Tryz.prog Tryz.f3 (BoolRet w true)) { tmps:=#[.slice ad1 n1 c1,.slice ad2 n1 c2,y2,y3,y4,.slice (some ⟨g1,0,none⟩) n1 k1,.slice (some ⟨g2,0,none⟩) n1 k2,y7,.slice (some ⟨g3,0,none⟩) n1 k3,.slice (some ⟨g4,0,none⟩) n1 k4,y10,.pointer (some ⟨bs,0,none⟩),y12,.pointer (some ⟨bd,0,none⟩),.int .i64 0,y15,y16,y17,y18,y19,y20,y21,y22,y23,y24,y25,y26,y27,y28,y29,y30,y31,y32,y33,y34,y35,y36,y37,y38,y39,y40,y41,y42,y43,y44,y45,y46,y47,y48,y49,y50,y51,y52,y53,y54,y55,y56,y57,y58,y59,y60,y61,y62,y63,y64,y65,y66,y67,y68,y69,y70,y71,y72,y73,y74,y75,y76,y77,y78,y79,y80,y81,y82,y83,y84,y85,y86,y87,y88,y89,y90,y91,y92,y93,y94,y95,y96,y97,y98,y99,y100,y101,y102,y103,y104,y105,y106,y107,y108,y109,y110,y111,y112,y113,y114,y115,y116,y117,y118,y119,y120,y121,y122,y123,y124,y125,y126,y127,y128,y129,y130,y131,y132,y133,y134],defers:=[] } wa:=by
 replace HC:=hid HC
 have d1:decide (((n1:Nat):Int)>200)=false:=decide_eq_false (by omega)
 have d1':¬ (((n1:Nat):Int)>200):=by omega
 have e1:=hid eL
 have e2:=hid eM
 have HL:=hid sL
 have HM:=hid sM
 have hd2:=hid hd
 have sd2:=hid sd
 have hn:=hid (show n1≤1000 by omega)
 clear h1 eL eM hd sL sM sd
 show Code.wp _ (Code.seq _ _) _ _ _
 go_upto_region 23 with fail
 have HND:=hid HC.out.nd
 have HRD:=hid HC.out.rd
 go_wp2_with fail
 obtain ⟨NNa,hNN⟩:=eY (wa.heap.size:Nat)
 have HSZa:Hid (wa.heap.size=NNa):=hNN
 obtain ⟨z_d_0,z_d_1,z_d_2⟩:=cells3 HRD.out
 have hlta_d:bd<NNa:=Nat.lt_of_lt_of_eq (World.block_lt_of_cell? _ _ z_d_0) hNN
 have H0:=Held0.start wa NNa
 have H0':=H0
 unfold Held0 at H0'
 refine wp_region_held_drew (S:=(fun w'=>(∀ b o,b<NNa→w'.cell? ⟨b,o,none⟩=wa.cell? ⟨b,o,none⟩)∧Below (NNa) wa w'∧Stay wa w')) (by kernel_rfl) ?_ (fun hHeld=>?_)
 · (try dsimp only)
   exact H0'
 obtain ⟨w1,hw1⟩:=eX wa.drew
 have b1:Hid (Below wa.heap.size wa w1):=by rw [hw1];exact ⟨rfl,rfl,rfl,Nat.le_refl _,fun _ _=>rfl⟩
 rw [←hw1] at hHeld H0 ⊢
 clear hw1 H0' hNN
 refine tk (i:=0) (h:=?_)
 try simp only [Act.put,lt,ly,lu]
 refine tk (i:=1) (h:=?_)
 try simp only [Act.put,lt,ly,lu]
 refine tk (i:=2) (h:=?_)
 try simp only [Act.put,lt,ly,lu]
 refine tk (i:=3) (h:=?_)
 try simp only [Act.put,lt,ly,lu]
 refine tk (i:=4) (h:=?_)
 try simp only [Act.put,lt,ly,lu]
 refine tk (i:=5) (h:=?_)
 try simp only [Act.put,lt,ly,lu]
 refine wpAnyH_ready (rs:=[6]) (by kernel_rfl) (by simp) (AllReadyH.cons (o:=?oq7) ?eq7 ?kq7 AllReadyH.nil)
 case eq7=>simp only [lg,lz,ls];rfl
 intro K hK;go_simp;go_at_call 14
 refine (dotR_val e1.out e2.out hd2.out (HC.out.keep b1.out).rp (HC.out.keep b1.out).rq rfl hn.out HL.out HM.out).mono ?_
 rintro e w2 ⟨v2,rfl,hv2,b2⟩
 obtain ⟨C1,j1,C2,j2,rfl,-,-⟩:=id hv2.opened
 replace hv2:=hid hv2
 replace b2:=hid b2
 have hk2:=hcall H0 HSZa b2.out;have hk2':=hk2;unfold Held0 at hk2';clear hHeld H0
 refine hK.out _ _ ?_ (fun hHeld=>?_)
 · (try dsimp only);with_reducible exact hk2'
 clear hK K hk2';try simp only [Act.put,lt,ly,lu]
 have y0_2:=hid (Below.step b1.out b2.out)
 refine wpAnyH_ready (rs:=[7]) (by kernel_rfl) (by simp) (AllReadyH.cons (o:=?oq8) ?eq8 ?kq8 AllReadyH.nil)
 case eq8=>simp only [lg,lz,ls];rfl
 intro K hK;go_simp;go_at_call 12
 refine (same_any (HND.out.keep y0_2.out) hv2.out sd2.out (HC.out.keep y0_2.out).hT).mono ?_
 rintro e w3 ⟨rfl,b3⟩
 replace b3:=hid b3
 have hk3:=hcall hk2 HSZa b3.out;have hk3':=hk3;unfold Held0 at hk3';clear hHeld hk2
 refine hK.out _ _ ?_ (fun hHeld=>?_)
 · (try dsimp only);with_reducible exact hk3'
 clear hK K hk3';try simp only [Act.put,lt,ly,lu]
 refine tk (i:=8) (h:=?_)
 try simp only [Act.put,lt,ly,lu]
 refine tk (i:=9) (h:=?_)
 try simp only [Act.put,lt,ly,lu]
 have y0_3:=hid (Below.step y0_2.out b3.out)
 refine wpAnyH_ready (rs:=[10]) (by kernel_rfl) (by simp) (AllReadyH.cons (o:=?oq11) ?eq11 ?kq11 AllReadyH.nil)
 case eq11=>simp only [lg,lz,ls];rfl
 intro K hK;go_simp;go_at_call 8
 refine (known_any (HC.out.keep y0_3.out).hM (HC.out.keep y0_3.out).hT).mono ?_
 rintro e w4 ⟨rfl,b4⟩
 replace b4:=hid b4
 have hk4:=hcall hk3 HSZa b4.out;have hk4':=hk4;unfold Held0 at hk4';clear hHeld hk3
 refine hK.out _ _ ?_ (fun hHeld=>?_)
 · (try dsimp only);with_reducible exact hk4'
 clear hK K hk4';try simp only [Act.put,lt,ly,lu]
 refine tk (i:=11) (h:=?_)
 try simp only [Act.put,lt,ly,lu]
 refine tk (i:=12) (h:=?_)
 try simp only [Act.put,lt,ly,lu]
 have y0_4:=hid (Below.step y0_3.out b4.out)
 have HE:=hid (HC.out.keep y0_4.out).hB
 refine wpAnyH_done (by kernel_rfl) ?_ _
 clear hHeld
 go_wp2_with fail
 go_ret
 exact ⟨rfl,HE.out⟩
theorem sums_end {w wa:World} {mx:Int} {L M:List Rat} {n1 n2:Nat} {ad1 ad2:Option Addr} {c1 c2 g1 k1 g2 k2 g3 k3 g4 k4 bs bd:Nat} {s d:Rat} {S1 S2 D1 D2:Option Addr} {i1 i2 i3 i4:Nat} {f:Int} {y2 y3 y4 y7 y10 y12 y15 y16 y17 y18 y19 y20 y21 y22 y23 y24 y25 y26 y27 y28 y29 y30 y31 y32 y33 y34 y35 y36 y37 y38 y39 y40 y41 y42 y43 y44 y45 y46 y47 y48 y49 y50 y51 y52 y53 y54 y55 y56 y57 y58 y59 y60 y61 y62 y63 y64 y65 y66 y67 y68 y69 y70 y71 y72 y73 y74 y75 y76 y77 y78 y79 y80 y81 y82 y83 y84 y85 y86 y87 y88 y89 y90 y91 y92 y93 y94 y95 y96 y97 y98 y99 y100 y101 y102 y103 y104 y105 y106 y107 y108 y109 y110 y111 y112 y113 y114 y115 y116 y117 y118 y119 y120 y121 y122 y123 y124 y125 y126 y127 y128 y129 y130 y131 y132 y133 y134:Value} (HC:Cx w wa mx L M g1 g2 g3 g4 bs bd S1 S2 D1 D2 i1 i2 i3 i4 s d) (eL:L.length=n1) (eM:M.length=n2) (ed:(if 200<n1∨200<n2 then 0 else if n1=n2 then sumL (prods L M) else 0)=d) (ef:(if 200<n1∨200<n2 then 5 else if n1=n2 then 0 else 2)=f) (h1:¬ (20<n1∧n1≤200∨210<n1)) (sL:∀ y∈L,siz y≤83) (sM:∀ y∈M,siz y≤83) :
   (codeAt 9 Tryz.f3).wp Tryz.prog (bodyPost Tryz.prog Tryz.f3 (BoolRet w true)) { tmps:=#[.slice ad1 n1 c1,.slice ad2 n2 c2,y2,y3,y4,.slice (some ⟨g1,0,none⟩) n1 k1,.slice (some ⟨g2,0,none⟩) n1 k2,y7,.slice (some ⟨g3,0,none⟩) n2 k3,.slice (some ⟨g4,0,none⟩) n2 k4,y10,.pointer (some ⟨bs,0,none⟩),y12,.pointer (some ⟨bd,0,none⟩),.int .i64 f,y15,y16,y17,y18,y19,y20,y21,y22,y23,y24,y25,y26,y27,y28,y29,y30,y31,y32,y33,y34,y35,y36,y37,y38,y39,y40,y41,y42,y43,y44,y45,y46,y47,y48,y49,y50,y51,y52,y53,y54,y55,y56,y57,y58,y59,y60,y61,y62,y63,y64,y65,y66,y67,y68,y69,y70,y71,y72,y73,y74,y75,y76,y77,y78,y79,y80,y81,y82,y83,y84,y85,y86,y87,y88,y89,y90,y91,y92,y93,y94,y95,y96,y97,y98,y99,y100,y101,y102,y103,y104,y105,y106,y107,y108,y109,y110,y111,y112,y113,y114,y115,y116,y117,y118,y119,y120,y121,y122,y123,y124,y125,y126,y127,y128,y129,y130,y131,y132,y133,y134],defers:=[] } wa:=by
 rcases Decidable.em (200<n1) with h | h
 · rw [if_pos (Or.inl h)] at ed ef
   rw [←ef]
   exact sums_end_long1 HC h ed.symm
 · rcases Decidable.em (200<n2) with k | k
   · rw [if_pos (Or.inr k)] at ed ef
     rw [←ef]
     exact sums_end_long2 HC (by omega) k ed.symm
   · rw [if_neg (by omega)] at ed ef
     rcases Decidable.em (n1=n2) with j | j
     · rw [if_pos j] at ed ef
       rw [←ef]
       subst j
       have sd:siz d≤4100:=by
         rw [←ed,←List.take_of_length_le (l:=prods L M) (i:=n1) (by simp [prods];omega)]
         refine Nat.le_trans (sumL_siz (prods_siz sL sM) n1) ?_
         have:=Nat.mul_le_mul_right (83+83+1) (show n1≤20 by omega)
         omega
       exact sums_end_ok HC (by omega) eL eM ed (fun y hy=>Nat.le_trans (sL y hy) (by omega)) (fun y hy=>Nat.le_trans (sM y hy) (by omega)) sd
     · rw [if_neg j] at ed ef
       rw [←ef]
       exact sums_end_arg HC (by omega) (by omega) j ed.symm
end Go.Proofs.YtlcimajjnfbidaaGreatDoor.Rf
namespace Go.Proofs.YtlcimajjnfbidaaGreatDoor.Rf
open Lib (hid)
open Go.RowKit
open Rx
open Vx (siz siz_num siz_den)
open List renaming getElem?_toArray → lg, getElem?_cons_zero → lz, getElem?_cons_succ → ls, setIfInBounds_toArray → lt, set_cons_zero → ly, set_cons_succ → lu
theorem sums_mid_long {w wa:World} {mx:Int} {L M:List Rat} {n1 n2:Nat} {ad1 ad2:Option Addr} {c1 c2 g1 k1 g2 k2 g3 k3 g4 k4 bs bd:Nat} {s d:Rat} {S1 S2 D1 D2:Option Addr} {i1 i2 i3 i4:Nat} {f:Int} {y2 y3 y4 y7 y10 y15 y16 y17 y18 y19 y20 y21 y22 y23 y24 y25 y26 y27 y28 y29 y30 y31 y32 y33 y34 y35 y36 y37 y38 y39 y40 y41 y42 y43 y44 y45 y46 y47 y48 y49 y50 y51 y52 y53 y54 y55 y56 y57 y58 y59 y60 y61 y62 y63 y64 y65 y66 y67 y68 y69 y70 y71 y72 y73 y74 y75 y76 y77 y78 y79 y80 y81 y82 y83 y84 y85 y86 y87 y88 y89 y90 y91 y92 y93 y94 y95 y96 y97 y98 y99 y100 y101 y102 y103 y104 y105 y106 y107 y108 y109 y110 y111 y112 y113 y114 y115 y116 y117 y118 y119 y120 y121 y122 y123 y124 y125 y126 y127 y128 y129 y130 y131 y132 y133 y134:Value} (HC:Cx w wa mx L M g1 g2 g3 g4 bs bd S1 S2 D1 D2 i1 i2 i3 i4 s d) (eL:L.length=n1) (eM:M.length=n2) (ed:(if 200<n1∨200<n2 then 0 else if n1=n2 then sumL (prods L M) else 0)=d) (ef:(if 200<n1∨200<n2 then 5 else if n1=n2 then 0 else 2)=f) (hc:¬ (20<n1∧n1≤200∨210<n1)) (sL:∀ y∈L,siz y≤83) (sM:∀ y∈M,siz y≤83) (h1:200<n1) (hs:s=0) :
   (codeAt 8 Tryz.f3).wp Tryz.prog (bodyPost Tryz.prog Tryz.f3 (BoolRet w true)) { tmps:=#[.slice ad1 n1 c1,.slice ad2 n2 c2,y2,y3,y4,.slice (some ⟨g1,0,none⟩) n1 k1,.slice (some ⟨g2,0,none⟩) n1 k2,y7,.slice (some ⟨g3,0,none⟩) n2 k3,.slice (some ⟨g4,0,none⟩) n2 k4,y10,.pointer (some ⟨bs,0,none⟩),.int .i64 5,.pointer (some ⟨bd,0,none⟩),.int .i64 f,y15,y16,y17,y18,y19,y20,y21,y22,y23,y24,y25,y26,y27,y28,y29,y30,y31,y32,y33,y34,y35,y36,y37,y38,y39,y40,y41,y42,y43,y44,y45,y46,y47,y48,y49,y50,y51,y52,y53,y54,y55,y56,y57,y58,y59,y60,y61,y62,y63,y64,y65,y66,y67,y68,y69,y70,y71,y72,y73,y74,y75,y76,y77,y78,y79,y80,y81,y82,y83,y84,y85,y86,y87,y88,y89,y90,y91,y92,y93,y94,y95,y96,y97,y98,y99,y100,y101,y102,y103,y104,y105,y106,y107,y108,y109,y110,y111,y112,y113,y114,y115,y116,y117,y118,y119,y120,y121,y122,y123,y124,y125,y126,y127,y128,y129,y130,y131,y132,y133,y134],defers:=[] } wa:=by
 have d1:decide (((n1:Nat):Int)>200)=true:=decide_eq_true (by omega)
 have d1':(((n1:Nat):Int)>200):=by omega
 have ys:s.num.sign=0:=by rw [hs];rfl
 replace ys:=hid ys
 clear hs h1
 replace HC:=hid HC
 replace eL:=hid eL
 replace eM:=hid eM
 replace ed:=hid ed
 replace ef:=hid ef
 replace hc:=hid hc
 replace sL:=hid sL
 replace sM:=hid sM
 show Code.wp _ (Code.seq _ _) _ _ _
 go_upto_region 14 with fail
 rename_i G hG Gb hGb
 replace hG:=hid hG
 go_upto_region 15 with fail
 obtain ⟨q0,q1,q2⟩:=cells3 HC.out.rs
 have HX:=hid (sign_val ys.out HC.out.ns)
 go_wp2_with fail
 refine (HX.out).mono ?_
 rintro e w1 ⟨rfl,b1⟩
 replace b1:=hid b1
 clear HX
 clear q0 q1 q2
 have HC2:=hid (HC.out.keep b1.out)
 go_wp2_with fail
 refine hG.out _ _ ?_
 exact sums_end HC2.out eL.out eM.out ed.out ef.out hc.out sL.out sM.out
theorem sums_mid_ok {w wa:World} {mx:Int} {L M:List Rat} {n1 n2:Nat} {ad1 ad2:Option Addr} {c1 c2 g1 k1 g2 k2 g3 k3 g4 k4 bs bd:Nat} {s d:Rat} {S1 S2 D1 D2:Option Addr} {i1 i2 i3 i4:Nat} {f:Int} {g5 k5:Nat} {y2 y3 y4 y7 y10 y16 y17 y18 y19 y20 y21 y22 y23 y24 y25 y26 y27 y28 y29 y30 y31 y32 y33 y34 y35 y36 y37 y38 y39 y40 y41 y42 y43 y44 y45 y46 y47 y48 y49 y50 y51 y52 y53 y54 y55 y56 y57 y58 y59 y60 y61 y62 y63 y64 y65 y66 y67 y68 y69 y70 y71 y72 y73 y74 y75 y76 y77 y78 y79 y80 y81 y82 y83 y84 y85 y86 y87 y88 y89 y90 y91 y92 y93 y94 y95 y96 y97 y98 y99 y100 y101 y102 y103 y104 y105 y106 y107 y108 y109 y110 y111 y112 y113 y114 y115 y116 y117 y118 y119 y120 y121 y122 y123 y124 y125 y126 y127 y128 y129 y130 y131 y132 y133 y134:Value} (HC:Cx w wa mx L M g1 g2 g3 g4 bs bd S1 S2 D1 D2 i1 i2 i3 i4 s d) (eL:L.length=n1) (eM:M.length=n2) (ed:(if 200<n1∨200<n2 then 0 else if n1=n2 then sumL (prods L M) else 0)=d) (ef:(if 200<n1∨200<n2 then 5 else if n1=n2 then 0 else 2)=f) (hc:¬ (20<n1∧n1≤200∨210<n1)) (sL:∀ y∈L,siz y≤83) (sM:∀ y∈M,siz y≤83) (h1:n1≤20) (hs:sumL L=s) (ho:RatsIn wa g5 0 (List.replicate n1 1)) :
   (codeAt 8 Tryz.f3).wp Tryz.prog (bodyPost Tryz.prog Tryz.f3 (BoolRet w true)) { tmps:=#[.slice ad1 n1 c1,.slice ad2 n2 c2,y2,y3,y4,.slice (some ⟨g1,0,none⟩) n1 k1,.slice (some ⟨g2,0,none⟩) n1 k2,y7,.slice (some ⟨g3,0,none⟩) n2 k3,.slice (some ⟨g4,0,none⟩) n2 k4,y10,.pointer (some ⟨bs,0,none⟩),.int .i64 0,.pointer (some ⟨bd,0,none⟩),.int .i64 f,.slice (some ⟨g5,0,none⟩) n1 k5,y16,y17,y18,y19,y20,y21,y22,y23,y24,y25,y26,y27,y28,y29,y30,y31,y32,y33,y34,y35,y36,y37,y38,y39,y40,y41,y42,y43,y44,y45,y46,y47,y48,y49,y50,y51,y52,y53,y54,y55,y56,y57,y58,y59,y60,y61,y62,y63,y64,y65,y66,y67,y68,y69,y70,y71,y72,y73,y74,y75,y76,y77,y78,y79,y80,y81,y82,y83,y84,y85,y86,y87,y88,y89,y90,y91,y92,y93,y94,y95,y96,y97,y98,y99,y100,y101,y102,y103,y104,y105,y106,y107,y108,y109,y110,y111,y112,y113,y114,y115,y116,y117,y118,y119,y120,y121,y122,y123,y124,y125,y126,y127,y128,y129,y130,y131,y132,y133,y134],defers:=[] } wa:=by
 have d1:decide (((n1:Nat):Int)>200)=false:=decide_eq_false (by omega)
 have d1':¬ (((n1:Nat):Int)>200):=by omega
 have ss:siz s≤4100:=by
   rw [←hs,←List.take_of_length_le (l:=L) (i:=n1) (by omega)]
   refine Nat.le_trans (sumL_siz sL n1) ?_
   have:=Nat.mul_le_mul_right (83+1) h1
   omega
 have hs2:sumL (prods L (List.replicate n1 1))=s:=by rw [←eL,prods_ones];exact hs
 have HL:=hid (show ∀ y∈L,siz y≤100000 from fun y hy=>Nat.le_trans (sL y hy) (by omega))
 have HO:=hid (show ∀ y∈List.replicate n1 (1:Rat),siz y≤100000 from fun y hy=>by rw [List.eq_of_mem_replicate hy];decide +kernel)
 have e2:=hid (List.length_replicate (n:=n1) (a:=(1:Rat)))
 have hn:=hid (show n1≤1000 by omega)
 replace ss:=hid ss
 replace hs2:=hid hs2
 replace ho:=hid ho
 clear hs h1
 replace HC:=hid HC
 replace eL:=hid eL
 replace eM:=hid eM
 replace ed:=hid ed
 replace ef:=hid ef
 replace hc:=hid hc
 replace sL:=hid sL
 replace sM:=hid sM
 show Code.wp _ (Code.seq _ _) _ _ _
 go_upto_region 14 with fail
 rename_i G hG Gb hGb
 replace hG:=hid hG
 go_upto_region 17 with fail
 have HNS:=hid HC.out.ns
 have HRS:=hid HC.out.rs
 go_wp2_with fail
 obtain ⟨NNa,hNN⟩:=eY (wa.heap.size:Nat)
 have HSZa:Hid (wa.heap.size=NNa):=hNN
 obtain ⟨z_s_0,z_s_1,z_s_2⟩:=cells3 HRS.out
 have hlta_s:bs<NNa:=Nat.lt_of_lt_of_eq (World.block_lt_of_cell? _ _ z_s_0) hNN
 have H0:=Held0.start wa NNa
 have H0':=H0
 unfold Held0 at H0'
 refine wp_region_held_drew (S:=(fun w'=>(∀ b o,b<NNa→w'.cell? ⟨b,o,none⟩=wa.cell? ⟨b,o,none⟩)∧Below (NNa) wa w'∧Stay wa w')) (by kernel_rfl) ?_ (fun hHeld=>?_)
 · (try dsimp only)
   exact H0'
 obtain ⟨w1,hw1⟩:=eX wa.drew
 have b1:Hid (Below wa.heap.size wa w1):=by rw [hw1];exact ⟨rfl,rfl,rfl,Nat.le_refl _,fun _ _=>rfl⟩
 rw [←hw1] at hHeld H0 ⊢
 clear hw1 H0' hNN
 refine tk (i:=0) (h:=?_)
 try simp only [Act.put,lt,ly,lu]
 refine tk (i:=1) (h:=?_)
 try simp only [Act.put,lt,ly,lu]
 refine tk (i:=2) (h:=?_)
 try simp only [Act.put,lt,ly,lu]
 refine tk (i:=3) (h:=?_)
 try simp only [Act.put,lt,ly,lu]
 refine tk (i:=4) (h:=?_)
 try simp only [Act.put,lt,ly,lu]
 refine tk (i:=5) (h:=?_)
 try simp only [Act.put,lt,ly,lu]
 refine wpAnyH_ready (rs:=[6]) (by kernel_rfl) (by simp) (AllReadyH.cons (o:=?oq20) ?eq20 ?kq20 AllReadyH.nil)
 case eq20=>simp only [lg,lz,ls];rfl
 intro K hK;go_simp;go_at_call 14
 refine (dotR_val eL.out e2.out hs2.out (HC.out.keep b1.out).rp (ho.out.keep b1.out) rfl hn.out HL.out HO.out).mono ?_
 rintro e w2 ⟨v2,rfl,hv2,b2⟩
 obtain ⟨C1,j1,C2,j2,rfl,-,-⟩:=id hv2.opened
 replace hv2:=hid hv2
 replace b2:=hid b2
 have hk2:=hcall H0 HSZa b2.out;have hk2':=hk2;unfold Held0 at hk2';clear hHeld H0
 refine hK.out _ _ ?_ (fun hHeld=>?_)
 · (try dsimp only);with_reducible exact hk2'
 clear hK K hk2';try simp only [Act.put,lt,ly,lu]
 have y0_2:=hid (Below.step b1.out b2.out)
 refine wpAnyH_ready (rs:=[7]) (by kernel_rfl) (by simp) (AllReadyH.cons (o:=?oq21) ?eq21 ?kq21 AllReadyH.nil)
 case eq21=>simp only [lg,lz,ls];rfl
 intro K hK;go_simp;go_at_call 12
 refine (same_any (HNS.out.keep y0_2.out) hv2.out ss.out (HC.out.keep y0_2.out).hT).mono ?_
 rintro e w3 ⟨rfl,b3⟩
 replace b3:=hid b3
 have hk3:=hcall hk2 HSZa b3.out;have hk3':=hk3;unfold Held0 at hk3';clear hHeld hk2
 refine hK.out _ _ ?_ (fun hHeld=>?_)
 · (try dsimp only);with_reducible exact hk3'
 clear hK K hk3';try simp only [Act.put,lt,ly,lu]
 refine tk (i:=8) (h:=?_)
 try simp only [Act.put,lt,ly,lu]
 refine tk (i:=9) (h:=?_)
 try simp only [Act.put,lt,ly,lu]
 refine wpAnyH_done (by kernel_rfl) ?_ _
 clear hHeld
 clear z_s_0 z_s_1 z_s_2 hlta_s
 clear hk3 HSZa
 have y0_3:=hid (Below.step y0_2.out b3.out)
 have HC2:=hid (HC.out.keep y0_3.out)
 go_wp2_with fail
 refine hG.out _ _ ?_
 exact sums_end HC2.out eL.out eM.out ed.out ef.out hc.out sL.out sM.out
end Go.Proofs.YtlcimajjnfbidaaGreatDoor.Rf
namespace Go.Proofs.YtlcimajjnfbidaaGreatDoor.Rf
open Lib (hid)
open Go.RowKit
open Rx
open Vx (siz siz_num siz_den)
open List renaming getElem?_toArray → lg, getElem?_cons_zero → lz, getElem?_cons_succ → ls, setIfInBounds_toArray → lt, set_cons_zero → ly, set_cons_succ → lu
def Ones (wa:World) (k:Nat) (ov:Value) (wr:World):Prop:=Grow IsRat 39 wa.heap.size wr ov (List.replicate k 1)∧Below wa.heap.size wa wr
theorem sums_rest {w wa:World} {mx:Int} {L M:List Rat} {n1 n2:Nat} {ad1 ad2:Option Addr} {c1 c2 g1 k1 g2 k2 g3 k3 g4 k4:Nat} {y2 y3 y4 y7 y10 y11 y12 y13 y14 y15 y16 y17 y18 y19 y20 y21 y22 y23 y24 y25 y26 y27 y28 y29 y30 y31 y32 y33 y34 y35 y36 y37 y38 y39 y40 y41 y42 y43 y44 y45 y46 y47 y48 y49 y50 y51 y52 y53 y54 y55 y56 y57 y58 y59 y60 y61 y62 y63 y64 y65 y66 y67 y68 y69 y70 y71 y72 y73 y74 y75 y76 y77 y78 y79 y80 y81 y82 y83 y84 y85 y86 y87 y88 y89 y90 y91 y92 y93 y94 y95 y96 y97 y98 y99 y100 y101 y102 y103 y104 y105 y106 y107 y108 y109 y110 y111 y112 y113 y114 y115 y116 y117 y118 y119 y120 y121 y122 y123 y124 y125 y126 y127 y128 y129 y130 y131 y132 y133 y134:Value} (hnp:NumsAt wa g1 0 L) (hrp:RatsIn wa g2 0 L) (hnq:NumsAt wa g3 0 M) (hrq:RatsIn wa g4 0 M) (hM:wa.cell? ⟨1,0,none⟩=some (.int .i64 mx)) (hT:TabAt 0 Lib.deBruijn64tab wa) (hB:Below w.heap.size w wa) (eL:L.length=n1) (eM:M.length=n2) (hc1:¬ (20<n1∧n1≤200∨210<n1)) (hc2:¬ (20<n2∧n2≤200∨210<n2)) (sL:∀ y∈L,siz y≤83) (sM:∀ y∈M,siz y≤83) :
   (codeAt 4 Tryz.f3).wp Tryz.prog (bodyPost Tryz.prog Tryz.f3 (BoolRet w true)) { tmps:=#[.slice ad1 n1 c1,.slice ad2 n2 c2,y2,y3,y4,.slice (some ⟨g1,0,none⟩) n1 k1,.slice (some ⟨g2,0,none⟩) n1 k2,y7,.slice (some ⟨g3,0,none⟩) n2 k3,.slice (some ⟨g4,0,none⟩) n2 k4,y10,y11,y12,y13,y14,y15,y16,y17,y18,y19,y20,y21,y22,y23,y24,y25,y26,y27,y28,y29,y30,y31,y32,y33,y34,y35,y36,y37,y38,y39,y40,y41,y42,y43,y44,y45,y46,y47,y48,y49,y50,y51,y52,y53,y54,y55,y56,y57,y58,y59,y60,y61,y62,y63,y64,y65,y66,y67,y68,y69,y70,y71,y72,y73,y74,y75,y76,y77,y78,y79,y80,y81,y82,y83,y84,y85,y86,y87,y88,y89,y90,y91,y92,y93,y94,y95,y96,y97,y98,y99,y100,y101,y102,y103,y104,y105,y106,y107,y108,y109,y110,y111,y112,y113,y114,y115,y116,y117,y118,y119,y120,y121,y122,y123,y124,y125,y126,y127,y128,y129,y130,y131,y132,y133,y134],defers:=[] } wa:=by
 obtain ⟨s,es⟩:=eY ((if 200<n1 then 0 else sumL L))
 obtain ⟨e,ee⟩:=eY ((if 200<n1 then 5 else 0):Int)
 obtain ⟨d,ed⟩:=eY ((if 200<n1∨200<n2 then 0 else if n1=n2 then sumL (prods L M) else 0))
 obtain ⟨f,ef⟩:=eY ((if 200<n1∨200<n2 then 5 else if n1=n2 then 0 else 2):Int)
 have HL:=hid (show ∀ y∈L,siz y≤100000 from fun y hy=>Nat.le_trans (sL y hy) (by omega))
 have HM:=hid (show ∀ y∈M,siz y≤100000 from fun y hy=>Nat.le_trans (sM y hy) (by omega))
 have N1:=hid (show n1≤1000 by omega)
 have N2:=hid (show n2≤1000 by omega)
 replace hnp:=hid hnp
 replace hrp:=hid hrp
 replace hnq:=hid hnq
 replace hrq:=hid hrq
 replace hM:=hid hM
 replace hT:=hid hT
 replace hB:=hid hB
 replace eL:=hid eL
 replace eM:=hid eM
 replace hc1:=hid hc1
 replace hc2:=hid hc2
 replace sL:=hid sL
 replace sM:=hid sM
 replace es:=hid es
 replace ee:=hid ee
 replace ed:=hid ed
 replace ef:=hid ef
 show Code.wp _ (Code.seq _ _) _ _ _
 have HX:=hid (sum_val (c:=k1) eL.out es.out ee.out hnp.out N1.out HL.out)
 go_wp2_with fail
 refine (HX.out).mono ?_
 rintro e w1 ⟨v1,rfl,hv1,b1⟩
 obtain ⟨C1,j1,C2,j2,rfl,-,-⟩:=id hv1.opened
 replace hv1:=hid hv1
 replace b1:=hid b1
 clear HX
 go_upto_region 6 with fail
 obtain ⟨w2,hw2⟩:=eX (w1.alloc (.cells #[.bool (decide (s.num<0)),.slice C1 (Vx.len s.num.natAbs) j1,.slice C2 (Vx.len (below s.den)) j2] 31))
 have b2:=hid (newb1 hw2)
 have L2:=hid (newz1 hw2)
 rw [←hw2]
 clear hw2
 have y0_2:=hid (Below.step b1.out b2.out)
 have HX:=hid (dot_val (c1:=k1) (c2:=k3) eL.out eM.out ed.out ef.out (hnp.out.keep y0_2.out) (hnq.out.keep y0_2.out) N1.out N2.out HL.out HM.out)
 go_wp2_with fail
 refine (HX.out).mono ?_
 rintro e w3 ⟨v3,rfl,hv3,b3⟩
 obtain ⟨C3,j3,C4,j4,rfl,-,-⟩:=id hv3.opened
 replace hv3:=hid hv3
 replace b3:=hid b3
 clear HX
 go_upto_region 7 with fail
 obtain ⟨w4,hw4⟩:=eX (w3.alloc (.cells #[.bool (decide (d.num<0)),.slice C3 (Vx.len d.num.natAbs) j3,.slice C4 (Vx.len (below d.den)) j4] 31))
 have b4:=hid (newb1 hw4)
 have L4:=hid (newz1 hw4)
 rw [←hw4]
 clear hw4
 have y0_4:=hid (Below.step (Below.step y0_2.out b3.out) b4.out)
 have y2_4:=hid (Below.step b3.out b4.out)
 have y1_4:=hid (Below.step (Below.step b2.out b3.out) b4.out)
 obtain ⟨bs,hbs⟩:=eY w1.heap.size
 obtain ⟨bd,hbd⟩:=eY w3.heap.size
 have kk:=y0_4.out
 have HC:Hid (Cx w w4 mx L M g1 g2 g3 g4 bs bd _ _ _ _ _ _ _ _ s d):=hid ⟨hnp.out.keep kk,hrp.out.keep kk,hnq.out.keep kk,hrq.out.keep kk,by rw [←hbs];exact at_keep L2.out y2_4.out,(hv1.out.keep y1_4.out),by rw [←hbd];exact L4.out,(hv3.out.keep b4.out),cell_keep hM.out kk,tab_keep hT.out kk,chain hB.out kk⟩
 rw [hbd]
 try rw [hbs]
 clear kk hbs hbd hnp hrp hnq hrq hM hT hB b1 b2 b3 b4 hv1 hv3 L2 L4
 go_upto_region 8 with fail
 obtain ⟨v0,hv0⟩:=eX (w4.alloc (.cells #[] 39))
 have HR:Hid (Ones w4 0 (.slice (some ⟨w4.heap.size,0,none⟩) 0 0) v0):=hid ⟨by rw [hv0];exact grow_nil (Nat.le_refl _),newb1 hv0⟩
 rw [←hv0]
 clear hv0
 rename_i G hG Gb hGb
 replace hG:=hid hG
 go_wp2_with fail
 go_loopw [15,16] (fun ov iv wr=>∃ k:Nat,k≤n1∧iv=.int .i64 ((k:Nat):Int)∧Hid (Ones w4 k ov wr)) (fun _ iv _=>n1 - (intOf iv).toNat)
 case atStart=>exact ⟨0,Nat.zero_le _,rfl,HR⟩
 case round =>
   obtain ⟨k,hk,rfl,hrel⟩:=hrel
   clear HR
   rcases Nat.lt_or_ge k n1 with hkn | hkn
   · have hkb:k<1000:=by have:=N1.out;omega
     have HCr:=hid (HC.out.keep hrel.out.2)
     have hin:decide (k<n1)=true:=decide_eq_true hkn
     obtain ⟨o1,eo1⟩:=eY (((1:Int):Rat))
     replace eo1:=hid eo1
     obtain ⟨x,hx⟩:∃ q,L[k]?=some q:=⟨L[k]'(by rw [eL.out];exact hkn),by simp⟩
     have tx:=sL.out x (List.mem_of_getElem? hx)
     have tx4:=hid (show siz x≤4100 by omega)
     replace hx:=hid hx
     clear tx
     have HX:=hid (int_any (w:=wr) eo1.out (by omega) (by omega))
     go_wp2_with fail
     refine (HX.out).mono ?_
     rintro e w91 ⟨v91,rfl,hv91,b91⟩
     obtain ⟨C91,j91,C92,j92,rfl,-,-⟩:=id hv91.opened
     replace hv91:=hid hv91
     replace b91:=hid b91
     clear HX
     obtain ⟨v1,hv1⟩:=eX (w91.alloc (.cells #[.bool (decide (o1.num<0)),.slice C91 (len o1.num.natAbs) j91,.slice C92 (len o1.den) j92] 39))
     have b92:=hid (newb1 hv1)
     have L92:=newz1 hv1
     replace hv1:=hid hv1
     have bb:=Below.step b91.out b92.out
     have HG:=hid (hrel.out.1.keep bb (fun _ _ h=>h.keep bb))
     have HB:=chain hrel.out.2 bb
     have l56:((List.replicate k (1:Rat)).length+1)*56≤140737488355328:=by rw [List.length_replicate];have:=N1.out;omega
     have lM:(List.replicate k (1:Rat)).length+1≤maxLen:=by rw [List.length_replicate];unfold maxLen;have:=N1.out;omega
     have HQ:=hid (hv91.out.keep b92.out)
     replace HB:=hid HB
     replace L92:=hid L92
     replace l56:=hid l56
     replace lM:=hid lM
     clear bb b91 b92 hv91 HCr
     go_wp2_with (at_builtin;refine wpList_plain rfl fun K hK=>?_;rw [←hv1.out];refine wp_push rfl (e:=39) Tryz.underlying24 infoRat liveRat rfl HG.out rfl L92.out HQ.out l56.out lM.out HB.out.size ?_;intro ov2 v2 hG2 LV GR hO;refine hK _ _ ?_;clear hK K)
     have e1s:List.replicate k (1:Rat)++[o1]=List.replicate (k+1) 1:=by rw [List.replicate_succ',←eo1.out];rfl
     rw [e1s] at hG2
     have HR2:Hid (Ones w4 (k+1) ov2 v2):=hid ⟨hG2,Below.grown HB.out GR HB.out.size (fun j hj=>(HG.out.own j hj).1)⟩
     have HC2:=hid (HC.out.keep HR2.out.2)
     clear hG2 LV GR hO HG HB L92 HQ l56 lM e1s hrel hv1
     obtain ⟨s5,A5,n5,c5,A6,n6,c6,y0,y1,y2,hxn⟩:=HC2.out.np k x hx.out
     obtain ⟨s7,A7,n7,c7,A8,n8,c8,z0,z1,z2,hxr⟩:=HC2.out.rp k x hx.out
     rw [Nat.zero_add] at y0 y1 y2 z0 z1 z2
     obtain ⟨ku,hku⟩:=eY (k*3)
     rw [hku] at y0 y1 y2 z0 z1 z2
     have hg1:=World.block_lt_of_cell? _ _ y0
     have hg2:=World.block_lt_of_cell? _ _ z0
     replace hxn:=hid hxn
     replace hxr:=hid hxr
     go_upto_region 12 with fail
     go_wp2_with fail
     refine wp_region_held_drew (S:=(fun w'=>(w'.cell? ⟨g1,ku,none⟩=v2.cell? ⟨g1,ku,none⟩∧w'.cell? ⟨g1,ku+1,none⟩=v2.cell? ⟨g1,ku+1,none⟩∧w'.cell? ⟨g1,ku+2,none⟩=v2.cell? ⟨g1,ku+2,none⟩∧w'.cell? ⟨g2,ku,none⟩=v2.cell? ⟨g2,ku,none⟩∧w'.cell? ⟨g2,ku+1,none⟩=v2.cell? ⟨g2,ku+1,none⟩∧w'.cell? ⟨g2,ku+2,none⟩=v2.cell? ⟨g2,ku+2,none⟩))) (by kernel_rfl) ?_ (fun hHeld=>?_)
     · (try dsimp only)
       exact ⟨rfl,rfl,rfl,rfl,rfl,rfl⟩
     obtain ⟨v3,hv3⟩:=eX v2.drew
     have b3:Hid (Below v2.heap.size v2 v3):=hid (by rw [hv3];exact ⟨rfl,rfl,rfl,Nat.le_refl _,fun _ _=>rfl⟩)
     rw [←hv3] at hHeld ⊢
     clear hv3
     refine tk (i:=0) (h:=?_)
     try simp only [Act.put,lt,ly,lu]
     refine tk (i:=1) (h:=?_)
     try simp only [Act.put,lt,ly,lu]
     refine tk (i:=2) (h:=?_)
     try simp only [Act.put,lt,ly,lu]
     refine tk (i:=3) (h:=?_)
     try simp only [Act.put,lt,ly,lu]
     refine tk (i:=4) (h:=?_)
     try simp only [Act.put,lt,ly,lu]
     refine tk (i:=5) (h:=?_)
     try simp only [Act.put,lt,ly,lu]
     refine tk (i:=6) (h:=?_)
     try simp only [Act.put,lt,ly,lu]
     refine tk (i:=7) (h:=?_)
     try simp only [Act.put,lt,ly,lu]
     refine wpAnyH_ready (rs:=[8]) (by kernel_rfl) (by simp) (AllReadyH.cons (o:=?os8) ?es8 ?ks8 AllReadyH.nil)
     case es8=>simp only [lg,lz,ls];rfl
     intro K hK;go_simp;go_at_call 12
     refine (same_any (hxn.out.keep b3.out) (hxr.out.keep b3.out) tx4.out (HC2.out.keep b3.out).hT).mono ?_
     rintro e8 v4 ⟨rfl,b4⟩
     have b34:=Below.step b3.out b4
     clear hHeld
     refine hK.out _ _ ?_ (fun hHeld=>?_)
     · (try dsimp only)
       exact ⟨b34.cell (p:=⟨g1,ku,none⟩) hg1,b34.cell (p:=⟨g1,ku+1,none⟩) hg1,b34.cell (p:=⟨g1,ku+2,none⟩) hg1,b34.cell (p:=⟨g2,ku,none⟩) hg2,b34.cell (p:=⟨g2,ku+1,none⟩) hg2,b34.cell (p:=⟨g2,ku+2,none⟩) hg2⟩
     clear hK K
     try simp only [Act.put,lt,ly,lu]
     refine tk (i:=9) (h:=?_)
     try simp only [Act.put,lt,ly,lu]
     refine wpAnyH_done (by kernel_rfl) ?_ _
     clear hHeld y0 y1 y2 z0 z1 z2 hku hxn hxr
     have HR3:Hid (Ones w4 (k+1) ov2 v4):=hid ⟨HR2.out.1.keep b34 (fun _ _ h=>h.keep b34),chain HR2.out.2 b34⟩
     clear HR2 HC2 b34 b3 b4
     go_wp2_with fail
     go_roundw
     case rel=>exact ⟨k+1,hkn,by go_num,HR3⟩
     case measure=>simp [intOf];omega
   · obtain rfl:k=n1:=Nat.le_antisymm hk hkn
     have hin:decide (k<k)=false:=decide_eq_false (Nat.lt_irrefl _)
     have HC2:=hid (HC.out.keep hrel.out.2)
     obtain ⟨g5,k5,rfl,ho⟩:=hrel.out.1.rats
     have ho2:=hid ho
     clear ho hrel HC
     simp only [List.length_replicate]
     go_wp2_with fail
     refine hG.out _ _ ?_
     rcases Decidable.em (200<k) with h | h
     · have es2:=es.out;have ee2:=ee.out
       rw [if_pos h] at es2 ee2
       rw [←ee2]
       exact sums_mid_long HC2.out eL.out eM.out ed.out ef.out hc1.out sL.out sM.out h es2.symm
     · have es2:=es.out;have ee2:=ee.out
       rw [if_neg h] at es2 ee2
       rw [←ee2]
       exact sums_mid_ok HC2.out eL.out eM.out ed.out ef.out hc1.out sL.out sM.out (by have:=hc1.out;omega) es2 ho2.out
end Go.Proofs.YtlcimajjnfbidaaGreatDoor.Rf
namespace Go.Proofs.YtlcimajjnfbidaaGreatDoor.Rf
open Lib (hid)
open Go.RowKit
open Rx
open Vx (siz siz_num siz_den)
open List renaming getElem?_toArray → lg, getElem?_cons_zero → lz, getElem?_cons_succ → ls, setIfInBounds_toArray → lt, set_cons_zero → ly, set_cons_succ → lu
theorem vals_siz {ss:List ByteArray} (h:∀ s∈ss,s.size≤40):∀ y∈vals ss,siz y≤83:=by
 intro y hy
 obtain ⟨s,hs,rfl⟩:=List.mem_map.1 hy
 have h1:=parse_siz_le s
 have h2:=h s hs
 omega
theorem sumsLaw_any {w:World} {mx:Int} {ad1 ad2:Option Addr} {c1 c2:Nat} {ss tt:List ByteArray} (h1:StrsAt w ad1 ss) (h2:StrsAt w ad2 tt) (m1:ss.length≤9223372036854775807) (m2:tt.length≤9223372036854775807) (hM:w.cell? ⟨1,0,none⟩=some (.int .i64 mx)) (hT:TabAt 0 Lib.deBruijn64tab w) :
   Calls Tryz.prog 3 #[.slice ad1 ss.length c1,.slice ad2 tt.length c2] w (BoolRet w true):=by
 replace h1:=hid h1
 replace h2:=hid h2
 replace m1:=hid m1
 replace m2:=hid m2
 replace hM:=hid hM
 replace hT:=hid hT
 go_enter Tryz.func3,Tryz.ntmps3
 have HX:=hid (numbers_any (c:=c1) h1.out m1.out hM.out)
 go_wp2_with fail
 refine (HX.out).mono ?_
 clear HX
 rintro e w1 h
 rcases h with ⟨hg1,g1,k1,g2,k2,rfl,np,rp,b1⟩ | ⟨hg1,rfl,b1⟩
 · replace np:=hid np
   replace rp:=hid rp
   replace hg1:=hid hg1
   replace b1:=hid b1
   have HX:=hid (numbers_any (c:=c2) (h2.out.keep b1.out) m2.out (cell_keep hM.out b1.out))
   go_wp2_with fail
   refine (HX.out).mono ?_
   clear HX
   rintro e w2 h
   rcases h with ⟨hg2,g3,k3,g4,k4,rfl,nq,rq,b2⟩ | ⟨hg2,rfl,b2⟩
   · replace b2:=hid b2
     replace hg2:=hid hg2
     replace nq:=hid nq
     replace rq:=hid rq
     go_upto_region 3 with fail
     rename_i G hG Gb hGb
     replace hG:=hid hG
     go_wp2_with fail
     refine hG.out _ _ ?_
     have bb:=Below.step b1.out b2.out
     exact sums_rest (np.out.keep b2.out) (rp.out.keep b2.out) nq.out rq.out (cell_keep hM.out bb) (tab_keep hT.out bb) bb (by simp [vals]) (by simp [vals]) hg1.out.1 hg2.out.1 (vals_siz hg1.out.2) (vals_siz hg2.out.2)
   · replace b2:=hid b2
     replace hg2:=hid hg2
     have HX:=hid (known_any (cell_keep hM.out (Below.step b1.out b2.out)) (tab_keep hT.out (Below.step b1.out b2.out)))
     go_wp2_with fail
     refine (HX.out).mono ?_
     rintro e w3 ⟨rfl,b3⟩
     have HE:=hid (Below.step (Below.step b1.out b2.out) b3)
     clear HX b3
     go_wp2_with fail
     go_ret
     exact ⟨rfl,HE.out⟩
 · replace hg1:=hid hg1
   replace b1:=hid b1
   have HX:=hid (numbers_any (c:=c2) (h2.out.keep b1.out) m2.out (cell_keep hM.out b1.out))
   go_wp2_with fail
   refine (HX.out).mono ?_
   clear HX
   rintro e w2 h
   rcases h with ⟨hg2,g3,k3,g4,k4,rfl,nq,rq,b2⟩ | ⟨hg2,rfl,b2⟩
   · replace nq:=hid nq
     replace rq:=hid rq
     replace b2:=hid b2
     replace hg2:=hid hg2
     have HX:=hid (known_any (cell_keep hM.out (Below.step b1.out b2.out)) (tab_keep hT.out (Below.step b1.out b2.out)))
     go_wp2_with fail
     refine (HX.out).mono ?_
     rintro e w3 ⟨rfl,b3⟩
     have HE:=hid (Below.step (Below.step b1.out b2.out) b3)
     clear HX b3
     go_wp2_with fail
     go_ret
     exact ⟨rfl,HE.out⟩
   · replace b2:=hid b2
     replace hg2:=hid hg2
     have HX:=hid (known_any (cell_keep hM.out (Below.step b1.out b2.out)) (tab_keep hT.out (Below.step b1.out b2.out)))
     go_wp2_with fail
     refine (HX.out).mono ?_
     rintro e w3 ⟨rfl,b3⟩
     have HE:=hid (Below.step (Below.step b1.out b2.out) b3)
     clear HX b3
     go_wp2_with fail
     go_ret
     exact ⟨rfl,HE.out⟩
end Go.Proofs.YtlcimajjnfbidaaGreatDoor.Rf
