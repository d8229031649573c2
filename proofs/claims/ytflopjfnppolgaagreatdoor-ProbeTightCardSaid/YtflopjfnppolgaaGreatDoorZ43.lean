/-
  Contracts of the functions that the law calls, for every input (Qy Qnn Qz).
-/
import Derived.Test.YtflopjfnppolgaaGreatDoorZ00
import Derived.Test.YtflopjfnppolgaaGreatDoorZ42
import Derived.Test.YtflopjfnppolgaaGreatDoorZ37
set_option linter.all false
set_option maxRecDepth 100000
set_option maxHeartbeats 40000000
namespace Go.Proofs.YtflopjfnppolgaaGreatDoor.Rf
open Lib (hid)
open Go.RowKit
open Rx
open Vx (Aa' Ai Ai')
open List renaming getElem?_toArray → lg, getElem?_cons_zero → lz, getElem?_cons_succ → ls, setIfInBounds_toArray → lt, set_cons_zero → ly, set_cons_succ → lu
theorem Ia' {w:World} {M0 M1:Int} {D0 D1:Nat} {x y lo hi:Rat} (h1 : -2147483648≤M0) (h2:M0≤2147483647) (h3:D0≤255) (h4 : -2147483648≤M1) (h5:M1≤2147483647) (h6:D1≤255) (ex:As M0 D0=x) (ey:As M1 D1=y) (el:leastOf x [y]=lo) (eh:greatestOf x [y]=hi) :
   Calls Tryz.prog 33 #[.agg #[.int .i32 M0,.int .u8 ((D0:Nat):Int),.int .i32 M1,.int .u8 ((D1:Nat):Int)]] w (Cm w lo hi):=by
 have kx:Aa' x≤20:=AN' h1 h2 ex
 obtain ⟨w1,hw⟩:=eX (((w.alloc (.cells #[.int .i32 M0,.int .u8 ((D0:Nat):Int),.int .i32 M1,.int .u8 ((D1:Nat):Int)] 25)).alloc (.cells #[.bool false,.slice none 0 0,.slice none 0 0,.bool false,.slice none 0 0,.slice none 0 0] 37)).alloc (.cells #[.bool false,.slice none 0 0,.slice none 0 0,.bool false,.slice none 0 0,.slice none 0 0] 45))
 obtain ⟨b1,g1,g2,g3⟩:=AC hw
 obtain ⟨z0,z1,z2,z3⟩:w1.cell? ⟨w.heap.size,0,none⟩=some (.int .i32 M0)∧w1.cell? ⟨w.heap.size,1,none⟩=some (.int .u8 ((D0:Nat):Int))∧w1.cell? ⟨w.heap.size,2,none⟩=some (.int .i32 M1)∧w1.cell? ⟨w.heap.size,3,none⟩=some (.int .u8 ((D1:Nat):Int)):=⟨cR _ _ 0 _ _ _ g1,cR _ _ 1 _ _ _ g1,cR _ _ 2 _ _ _ g1,cR _ _ 3 _ _ _ g1⟩
 have hbel:=Al' g1
 have lR:=Al' g3
 replace b1:=hid b1
 replace g1:=hid g1
 replace g2:=hid g2
 replace g3:=hid g3
 replace ex:=hid ex
 replace ey:=hid ey
 replace el:=hid el
 replace eh:=hid eh
 replace h1:=hid h1
 replace h2:=hid h2
 replace h3:=hid h3
 replace h4:=hid h4
 replace h5:=hid h5
 replace h6:=hid h6
 clear kx
 go_enter Tryz.func33,Tryz.ntmps33
 go_upto_region 1 with fail
 rename_i G hG
 replace hG:=hid hG
 rw [←hw]
 clear hw
 go_wp2_with fail
 refine wp_region_held_drew (S:=(fun w'=>(w'.cell? ⟨w.heap.size,0,none⟩=w1.cell? ⟨w.heap.size,0,none⟩∧w'.cell? ⟨w.heap.size,1,none⟩=w1.cell? ⟨w.heap.size,1,none⟩∧w'.cell? ⟨w.heap.size,2,none⟩=w1.cell? ⟨w.heap.size,2,none⟩∧w'.cell? ⟨w.heap.size,3,none⟩=w1.cell? ⟨w.heap.size,3,none⟩))) (by kernel_rfl) ?_ (fun hHeld=>?_)
 · (try dsimp only)
   exact ⟨rfl,rfl,rfl,rfl⟩
 obtain ⟨w2,hw2⟩:=eX w1.drew
 have bd:Hid (Below w1.heap.size w1 w2):=hid (by rw [hw2];exact ⟨rfl,rfl,rfl,nL _,fun _ _=>rfl⟩)
 rw [←hw2] at hHeld ⊢
 clear hw2
 have hSof:Hid (∀ u:World,Below w2.heap.size w2 u→(u.cell? ⟨w.heap.size,0,none⟩=w1.cell? ⟨w.heap.size,0,none⟩∧u.cell? ⟨w.heap.size,1,none⟩=w1.cell? ⟨w.heap.size,1,none⟩∧u.cell? ⟨w.heap.size,2,none⟩=w1.cell? ⟨w.heap.size,2,none⟩∧u.cell? ⟨w.heap.size,3,none⟩=w1.cell? ⟨w.heap.size,3,none⟩)):=hid (fun u hu=>by
   have k:=bS bd.out hu
   exact ⟨k.cell (p:=⟨w.heap.size,0,none⟩) hbel,k.cell (p:=⟨w.heap.size,1,none⟩) hbel,k.cell (p:=⟨w.heap.size,2,none⟩) hbel,k.cell (p:=⟨w.heap.size,3,none⟩) hbel⟩)
 have lD:w1.heap.size≤w2.heap.size:=bd.out.size
 refine tk (i:=0) (h:=?_)
 try simp only [Act.put,lt,ly,lu]
 refine tk (i:=1) (h:=?_)
 try simp only [Act.put,lt,ly,lu]
 refine tk (i:=3) (h:=?_)
 try simp only [Act.put,lt,ly,lu]
 refine tk (i:=4) (h:=?_)
 try simp only [Act.put,lt,ly,lu]
 clear hHeld z0 z1 z2 z3
 refine Ha' (base:=2) (n:=4) (INV:=fun a0 nK lK aK u=>∃ (c2 c5 d6 d7:Bool) (vx vy p6 p7:Value) (b6 b7:Nat),nK=(!c2).toNat+(!c5).toNat+(!d6).toNat+(!d7).toNat∧lK=#[true,true,c2,true,true,c5,d6,d7,false,false]∧aK={ a0 with tmps:=((((a0.tmps.setIfInBounds 10 vx).setIfInBounds 13 vy).setIfInBounds 4 p6).setIfInBounds 5 p7) }∧((c2 || !c5))=true∧Below w2.heap.size w2 u∧(c2=true→Ac' u vx x)∧(c5=true→Ac' u vy y)∧BP d6 w2.heap.size u (.cells #[.bool false,.slice none 0 0,.slice none 0 0] 35) p6 b6∧BP d7 w2.heap.size u (.cells #[.bool false,.slice none 0 0,.slice none 0 0] 35) p7 b7∧(d6=true→d7=true→b6≠b7)) ?_ ?_ ?_
 · exact ⟨false,false,false,false,undef,undef,undef,undef,0,0,rfl,rfl,(by kernel_rfl),rfl,Below.refl _ _,nofun,nofun,nofun,nofun,nofun⟩
 rotate_left
 · rintro nK lK aK u ⟨c2,c5,d6,d7,vx,vy,p6,p7,b6,b7,hn,rfl,rfl,hc,HB,k2,k5,r6,r7,n6_7⟩ ih
   refine BA' (fun i=>(i==2 && !c2) || (i==5 && (c2 && !c5)) || (i==6 && !d6) || (i==7 && !d7)) ?_ ?_
   · clear ih HB n6_7 r7 r6 k5 k2
     cases c2 <;> cases c5 <;> cases d6 <;> cases d7 <;> first | exact absurd hn (Nat.succ_ne_zero nK) | exact absurd hc Bool.false_ne_true | (clear hn hc;kernel_rfl)
   · intro iK hp
     simp only [Bool.or_eq_true,Bool.and_eq_true,beq_iff_eq,Bool.not_eq_true'] at hp
     rcases hp with (((⟨rfl,rfl⟩ | ⟨rfl,rfl,rfl⟩) | ⟨rfl,rfl⟩) | ⟨rfl,rfl⟩)
     · refine AllReadyH.cons (o:=?oq9) ?eq9 ?kq9 AllReadyH.nil
       case eq9=>simp only [lg,lz,ls] <;> rfl
       intro K hK
       go_simp
       go_at_call 9
       refine (Bw h1.out h2.out h3.out ex.out).mono ?_
       rintro eK u9 ⟨vx,rfl,kk,b9⟩
       refine hK.out _ _ (hSof.out u9 (bS HB b9)) (fun hHeld=>?_)
       clear hK
       try simp only [Act.put,lt,ly,lu]
       exact ih _ (by omega) _ _ _ ⟨true,c5,d6,d7,vx,vy,p6,p7,b6,b7,(by simp only [Bool.not_true,Bool.not_false,Bool.toNat_true,Bool.toNat_false] at hn ⊢;omega),rfl,(by kernel_rfl),(by cases c5 <;> first | rfl | exact hc | cases hc),bS HB b9,fun _=>kk,fun h=>(k5 h).keep b9,r6.keep b9,r7.keep b9,n6_7⟩
     · refine AllReadyH.cons (o:=?oq10) ?eq10 ?kq10 AllReadyH.nil
       case eq10=>simp only [lg,lz,ls] <;> rfl
       intro K hK
       go_simp
       go_at_call 9
       refine (Bw h4.out h5.out h6.out ey.out).mono ?_
       rintro eK u9 ⟨vy,rfl,kk,b9⟩
       refine hK.out _ _ (hSof.out u9 (bS HB b9)) (fun hHeld=>?_)
       clear hK
       try simp only [Act.put,lt,ly,lu]
       exact ih _ (by omega) _ _ _ ⟨true,true,d6,d7,vx,vy,p6,p7,b6,b7,(by simp only [Bool.not_true,Bool.not_false,Bool.toNat_true,Bool.toNat_false] at hn ⊢;omega),rfl,(by kernel_rfl),(by first | rfl | exact hc | cases hc),bS HB b9,fun h=>(k2 h).keep b9,fun _=>kk,r6.keep b9,r7.keep b9,n6_7⟩
     · refine AllReadyH.cons (o:=?oq11) ?eq11 ?kq11 AllReadyH.nil
       case eq11=>simp only [lg,lz,ls] <;> rfl
       intro K hK
       go_simp
       have b9:=Am' u (.cells #[.bool false,.slice none 0 0,.slice none 0 0] 35)
       refine hK.out _ _ (hSof.out _ (bS HB b9)) (fun _=>?_)
       try simp only [Act.put,lt,ly,lu]
       exact ih _ (by omega) _ _ _ ⟨c2,c5,true,d7,vx,vy,.pointer (some ⟨u.heap.size,0,none⟩),p7,u.heap.size,b7,(by simp only [Bool.not_true,Bool.not_false,Bool.toNat_true,Bool.toNat_false] at hn ⊢;omega),rfl,(by kernel_rfl),hc,bS HB b9,fun h=>(k2 h).keep b9,fun h=>(k5 h).keep b9,.new _ HB.size,r7.keep b9,fun _=>r7.ne⟩
     · refine AllReadyH.cons (o:=?oq12) ?eq12 ?kq12 AllReadyH.nil
       case eq12=>simp only [lg,lz,ls] <;> rfl
       intro K hK
       go_simp
       have b9:=Am' u (.cells #[.bool false,.slice none 0 0,.slice none 0 0] 35)
       refine hK.out _ _ (hSof.out _ (bS HB b9)) (fun _=>?_)
       try simp only [Act.put,lt,ly,lu]
       exact ih _ (by omega) _ _ _ ⟨c2,c5,d6,true,vx,vy,p6,.pointer (some ⟨u.heap.size,0,none⟩),b6,u.heap.size,(by simp only [Bool.not_true,Bool.not_false,Bool.toNat_true,Bool.toNat_false] at hn ⊢;omega),rfl,(by kernel_rfl),hc,bS HB b9,fun h=>(k2 h).keep b9,fun h=>(k5 h).keep b9,r6.keep b9,.new _ HB.size,fun h _=>(r6.ne h).symm⟩
 rintro lK aK u ⟨c2,c5,d6,d7,vx,vy,p6,p7,b6,b7,hn,rfl,rfl,hc,HB,k2,k5,r6,r7,n6_7⟩
 obtain ⟨rfl,rfl,rfl,rfl⟩:c2=true∧c5=true∧d6=true∧d7=true:=by
   revert hn
   clear HB hc n6_7 r7 r6 k5 k2
   cases c2 <;> cases c5 <;> cases d6 <;> cases d7 <;> simp
 clear hn hc
 replace k2:=k2 rfl
 replace k5:=k5 rfl
 obtain ⟨rfl,rr6⟩:=r6 rfl
 clear r6
 obtain ⟨rfl,rr7⟩:=r7 rfl
 clear r7
 replace n6_7:=n6_7 rfl rfl
 try simp only [Act.put,lt,ly,lu]
 obtain ⟨A1,c1,B1,e1,rfl,-,-⟩:=id k2.opened
 obtain ⟨A2,c2,B2,e2,rfl,-,-⟩:=id k5.opened
 have lb6:=rr6.1
 have lb7:=rr7.1
 replace rr6:=hid rr6
 replace rr7:=hid rr7
 have G1:=hid (Ab' g1.out (bS bd.out HB))
 have G2:=hid (Ab' g2.out (bS bd.out HB))
 have G3:=hid (Ab' g3.out (bS bd.out HB))
 refine BA' (fun i=>i==8) (by kernel_rfl) (fun i hp=>?_)
 obtain rfl:=beq_iff_eq.1 hp
 clear hp
 refine AllReadyH.cons (o:=?o8) ?e8 ?k8 AllReadyH.nil
 case e8=>simp only [lg,lz,ls] <;> rfl
 intro K hK
 have D8:=rr6.out.2
 obtain ⟨q0,q1,q2⟩:=Ad' D8
 have F0:=fR u b6 0 _ _ D8
 have F1:=fR u b6 1 _ _ D8
 have F2:=fR u b6 2 _ _ D8
 go_simp
 clear q0 q1 q2 F0 F1 F2
 obtain ⟨u8,hw⟩:=eX ((((u.setCell ⟨b6,0,none⟩ (.bool (decide (x.num<0)))).setCell ⟨b6,1,none⟩ (.slice A1 (Vx.len x.num.natAbs) c1)).setCell ⟨b6,2,none⟩ (.slice B1 (Vx.len (below x.den)) e1)))
 obtain ⟨E8,OT,LV,BL⟩:=AE D8 hw
 rw [←hw]
 clear hw
 have HB8:=BL _ _ lb6 HB
 have R7_8:=hid (OT _ _ (by exact n6_7.symm) (rr7.out.2))
 have R1_8:=hid (OT _ _ (by omega) (G1.out))
 have R2_8:=hid (OT _ _ (by omega) (G2.out))
 have R3_8:=hid (OT _ _ (by omega) (G3.out))
 have V2_8:=LV.num k2
 have V5_8:=LV.num k5
 refine hK.out _ _ (hSof.out _ HB8) (fun _=>?_)
 clear hK K OT LV BL
 replace E8:=hid E8
 clear D8
 try simp only [Act.put,lt,ly,lu]
 refine BA' (fun i=>i==9) (by kernel_rfl) (fun i hp=>?_)
 obtain rfl:=beq_iff_eq.1 hp
 clear hp
 refine AllReadyH.cons (o:=?o9) ?e9 ?k9 AllReadyH.nil
 case e9=>simp only [lg,lz,ls] <;> rfl
 intro K hK
 have D9:=R7_8.out
 obtain ⟨q0,q1,q2⟩:=Ad' D9
 have F0:=fR u8 b7 0 _ _ D9
 have F1:=fR u8 b7 1 _ _ D9
 have F2:=fR u8 b7 2 _ _ D9
 go_simp
 clear q0 q1 q2 F0 F1 F2
 obtain ⟨u9,hw⟩:=eX ((((u8.setCell ⟨b7,0,none⟩ (.bool (decide (y.num<0)))).setCell ⟨b7,1,none⟩ (.slice A2 (Vx.len y.num.natAbs) c2)).setCell ⟨b7,2,none⟩ (.slice B2 (Vx.len (below y.den)) e2)))
 obtain ⟨E9,OT,LV,BL⟩:=AE D9 hw
 rw [←hw]
 clear hw
 have HB9:=BL _ _ lb7 HB8
 have R6_9:=hid (OT _ _ (by exact n6_7) (E8.out))
 have R1_9:=hid (OT _ _ (by omega) (R1_8.out))
 have R2_9:=hid (OT _ _ (by omega) (R2_8.out))
 have R3_9:=hid (OT _ _ (by omega) (R3_8.out))
 have V2_9:=LV.num V2_8
 have V5_9:=LV.num V5_8
 refine hK.out _ _ (hSof.out _ HB9) (fun _=>?_)
 clear hK K OT LV BL
 replace E9:=hid E9
 clear D9
 try simp only [Act.put,lt,ly,lu]
 refine wpAnyH_done (by kernel_rfl) ?_ _
 go_wp2_with fail
 refine hG.out _ _ ?_
 rcases Decidable.em (y<x) with hxy | hxy
 · exact Ia (bS b1.out (bS bd.out HB9)) R1_9.out R2_9.out R3_9.out (by omega) (by omega) (by omega) el.out eh.out h1.out h2.out h3.out h4.out h5.out h6.out ex.out ey.out R6_9.out V2_9 E9.out V5_9 n6_7.symm (by omega) (by omega) hxy
 · exact H9' (bS b1.out (bS bd.out HB9)) R1_9.out R2_9.out R3_9.out (by omega) (by omega) (by omega) el.out eh.out h1.out h2.out h3.out h4.out h5.out h6.out ex.out ey.out R6_9.out V2_9 E9.out V5_9 n6_7.symm (by omega) (by omega) hxy
theorem II' {b b' b'':Bool} {A1 A2 A3 A4 A5 A6:Option Addr} {n1 c1 n2 c2 n3 c3 n4 c4 n5 c5 n6 c6:Nat}:CF #[.bool b,.slice A1 n1 c1,.slice A2 n2 c2,.bool b',.slice A3 n3 c3,.slice A4 n4 c4,.bool b'',.slice A5 n5 c5,.slice A6 n6 c6]:=by
 intro i k n
 match i with
 | 0=>exact fun h=>by cases h
 | 1=>exact fun h=>by cases h
 | 2=>exact fun h=>by cases h
 | 3=>exact fun h=>by cases h
 | 4=>exact fun h=>by cases h
 | 5=>exact fun h=>by cases h
 | 6=>exact fun h=>by cases h
 | 7=>exact fun h=>by cases h
 | 8=>exact fun h=>by cases h
 | i+9=>simp
theorem Bd {b b' b'':Bool} {A1 A2 A3 A4 A5 A6:Option Addr} {n1 c1 n2 c2 n3 c3 n4 c4 n5 c5 n6 c6:Nat}:∀ (i:Nat) (k:Int),(#[.bool b,.slice A1 n1 c1,.slice A2 n2 c2,.bool b',.slice A3 n3 c3,.slice A4 n4 c4,.bool b'',.slice A5 n5 c5,.slice A6 n6 c6]:Array Value)[i]?≠some (.int .i64 k):=by
 intro i k
 match i with
 | 0=>simp
 | 1=>simp
 | 2=>simp
 | 3=>simp
 | 4=>simp
 | 5=>simp
 | 6=>simp
 | 7=>simp
 | 8=>simp
 | i+9=>simp
theorem FU {w w':World} {b:Nat} {T:TypeId} {s1 s2 s3 t1 t2 t3:Bool} {A1 A2 A3 A4 A5 A6 B1 B2 B3 B4 B5 B6:Option Addr} {n1 c1 n2 c2 n3 c3 n4 c4 n5 c5 n6 c6 m1 d1 m2 d2 m3 d3 m4 d4 m5 d5 m6 d6:Nat} (L:w.heap[b]?=some (.cells #[.bool t1,.slice B1 m1 d1,.slice B2 m2 d2,.bool t2,.slice B3 m3 d3,.slice B4 m4 d4,.bool t3,.slice B5 m5 d5,.slice B6 m6 d6] T (0,0))) (hw:w'=(((((((((w.setCell ⟨b,0,none⟩ (.bool s1)).setCell ⟨b,1,none⟩ (.slice A1 n1 c1)).setCell ⟨b,2,none⟩ (.slice A2 n2 c2)).setCell ⟨b,3,none⟩ (.bool s2)).setCell ⟨b,4,none⟩ (.slice A3 n3 c3)).setCell ⟨b,5,none⟩ (.slice A4 n4 c4)).setCell ⟨b,6,none⟩ (.bool s3)).setCell ⟨b,7,none⟩ (.slice A5 n5 c5)).setCell ⟨b,8,none⟩ (.slice A6 n6 c6))) :
   w'.heap[b]?=some (.cells #[.bool s1,.slice A1 n1 c1,.slice A2 n2 c2,.bool s2,.slice A3 n3 c3,.slice A4 n4 c4,.bool s3,.slice A5 n5 c5,.slice A6 n6 c6] T (0,0))∧(∀ (n:Nat) (o:Obj),n≠b→w.heap[n]?=some o→w'.heap[n]?=some o)∧A9 w w'∧(∀ (N:Nat) (wB:World),N≤b→Below N wB w→Below N wB w'):=by
 have g1:=heap_setCell_same w b 0 _ _ (.bool s1) L
 have g2:=heap_setCell_same _ b 1 _ _ (.slice A1 n1 c1) g1
 have g3:=heap_setCell_same _ b 2 _ _ (.slice A2 n2 c2) g2
 have g4:=heap_setCell_same _ b 3 _ _ (.bool s2) g3
 have g5:=heap_setCell_same _ b 4 _ _ (.slice A3 n3 c3) g4
 have g6:=heap_setCell_same _ b 5 _ _ (.slice A4 n4 c4) g5
 have g7:=heap_setCell_same _ b 6 _ _ (.bool s3) g6
 have g8:=heap_setCell_same _ b 7 _ _ (.slice A5 n5 c5) g7
 have g9:=heap_setCell_same _ b 8 _ _ (.slice A6 n6 c6) g8
 have k0:Aq' 9 T w b w:=Aq'.start rfl II' L
 have k1:=k0.set (i:=0) (AU s1)
 have k2:=k1.set (i:=1) (Ax A1 n1 c1)
 have k3:=k2.set (i:=2) (Ax A2 n2 c2)
 have k4:=k3.set (i:=3) (AU s2)
 have k5:=k4.set (i:=4) (Ax A3 n3 c3)
 have k6:=k5.set (i:=5) (Ax A4 n4 c4)
 have k7:=k6.set (i:=6) (AU s3)
 have k8:=k7.set (i:=7) (Ax A5 n5 c5)
 have S:An' w w':=by rw [hw];exact ((((((((((An'.refl w).put k0).put k1).put k2).put k3).put k4).put k5).put k6).put k7).put k8)
 have R:∀ v z,Ap' w v z→Ap' w' v z:=fun v z hv=>by rw [hw];exact (((((((((hv.other (i:=0) (u:=.bool s1) L Bd).other (i:=1) (u:=.slice A1 n1 c1) g1 Bd).other (i:=2) (u:=.slice A2 n2 c2) g2 Bd).other (i:=3) (u:=.bool s2) g3 Bd).other (i:=4) (u:=.slice A3 n3 c3) g4 Bd).other (i:=5) (u:=.slice A4 n4 c4) g5 Bd).other (i:=6) (u:=.bool s3) g6 Bd).other (i:=7) (u:=.slice A5 n5 c5) g7 Bd).other (i:=8) (u:=.slice A6 n6 c6) g8 Bd)
 refine ⟨by rw [hw,g9];simp only [lt,ly,lu],fun n o hne ho=>by rw [hw,heap_setCell_other _ _ _ _ hne,heap_setCell_other _ _ _ _ hne,heap_setCell_other _ _ _ _ hne,heap_setCell_other _ _ _ _ hne,heap_setCell_other _ _ _ _ hne,heap_setCell_other _ _ _ _ hne,heap_setCell_other _ _ _ _ hne,heap_setCell_other _ _ _ _ hne,heap_setCell_other _ _ _ _ hne];exact ho,⟨S,R⟩,fun N wB hN hB=>?_⟩
 rw [hw];exact (((((((((hB.setCell (p:=⟨b,0,none⟩) hN _).setCell (p:=⟨b,1,none⟩) hN _).setCell (p:=⟨b,2,none⟩) hN _).setCell (p:=⟨b,3,none⟩) hN _).setCell (p:=⟨b,4,none⟩) hN _).setCell (p:=⟨b,5,none⟩) hN _).setCell (p:=⟨b,6,none⟩) hN _).setCell (p:=⟨b,7,none⟩) hN _).setCell (p:=⟨b,8,none⟩) hN _)
theorem AY {w:World} {b:Nat} {v0 v1 v2 v3 v4 v5 v6 v7 v8:Value} {ty:TypeId} (h:w.heap[b]?=some (.cells #[v0,v1,v2,v3,v4,v5,v6,v7,v8] ty (0,0))):w.cell? ⟨b,0,none⟩=some v0∧w.cell? ⟨b,1,none⟩=some v1∧w.cell? ⟨b,2,none⟩=some v2∧w.cell? ⟨b,3,none⟩=some v3∧w.cell? ⟨b,4,none⟩=some v4∧w.cell? ⟨b,5,none⟩=some v5∧w.cell? ⟨b,6,none⟩=some v6∧w.cell? ⟨b,7,none⟩=some v7∧w.cell? ⟨b,8,none⟩=some v8:=⟨cR _ _ 0 _ _ _ h,cR _ _ 1 _ _ _ h,cR _ _ 2 _ _ _ h,cR _ _ 3 _ _ _ h,cR _ _ 4 _ _ _ h,cR _ _ 5 _ _ _ h,cR _ _ 6 _ _ _ h,cR _ _ 7 _ _ _ h,cR _ _ 8 _ _ _ h⟩
def AX (w:World) (v:Value) (a b e:Rat):Prop:=∃ A1 c1 B1 d1 A2 c2 B2 d2 A3 c3 B3 d3,v=.agg #[.bool (decide (a.num<0)),.slice A1 (len a.num.natAbs) c1,.slice B1 (len a.den) d1,.bool (decide (b.num<0)),.slice A2 (len b.num.natAbs) c2,.slice B2 (len b.den) d2,.bool (decide (e.num<0)),.slice A3 (len e.num.natAbs) c3,.slice B3 (len e.den) d3]∧Ay' w (.agg #[.bool (decide (a.num<0)),.slice A1 (len a.num.natAbs) c1,.slice B1 (len a.den) d1,.bool (decide (b.num<0)),.slice A2 (len b.num.natAbs) c2,.slice B2 (len b.den) d2]) a b∧Ah w (.agg #[.bool (decide (e.num<0)),.slice A3 (len e.num.natAbs) c3,.slice B3 (len e.den) d3]) e
def Ib (w:World) (a b r:Rat) (e:Ending) (w':World):Prop:=∃ v v2,e=.returned (.tuple #[v,v2])∧AA' w' v a b r∧AX w' v2 a b r∧Below w.heap.size w w'
theorem Dk {w:World} {M0 M1 M2:Int} {D0 D1 D2:Nat} {x y lo hi r:Rat} (h1 : -2147483648≤M0) (h2:M0≤2147483647) (h3:D0≤255) (h4 : -2147483648≤M1) (h5:M1≤2147483647) (h6:D1≤255) (ex:As M0 D0=x) (ey:As M1 D1=y) (h7 : -2147483648≤M2) (h8:M2≤2147483647) (h9:D2≤255) (er:As M2 D2=r) (el:leastOf x [y]=lo) (eh:greatestOf x [y]=hi) :
   Calls Tryz.prog 6 #[.agg #[.int .i32 M0,.int .u8 ((D0:Nat):Int),.int .i32 M1,.int .u8 ((D1:Nat):Int),.int .i32 M2,.int .u8 ((D2:Nat):Int)]] w (Ib w lo hi r):=by
 obtain ⟨w1,hw⟩:=eX (((w.alloc (.cells #[.int .i32 M0,.int .u8 ((D0:Nat):Int),.int .i32 M1,.int .u8 ((D1:Nat):Int),.int .i32 M2,.int .u8 ((D2:Nat):Int)] 27)).alloc (.cells #[.bool false,.slice none 0 0,.slice none 0 0,.bool false,.slice none 0 0,.slice none 0 0,.bool false,.slice none 0 0,.slice none 0 0] 39)).alloc (.cells #[.bool false,.slice none 0 0,.slice none 0 0,.bool false,.slice none 0 0,.slice none 0 0,.bool false,.slice none 0 0,.slice none 0 0] 47))
 obtain ⟨b1,g1,g2,g3⟩:=AC hw
 have hbel:=Al' g1
 have z0:w1.cell? ⟨w.heap.size,0,none⟩=some (.int .i32 M0):=cR _ _ 0 _ _ _ g1
 have z1:w1.cell? ⟨w.heap.size,1,none⟩=some (.int .u8 ((D0:Nat):Int)):=cR _ _ 1 _ _ _ g1
 have z2:w1.cell? ⟨w.heap.size,2,none⟩=some (.int .i32 M1):=cR _ _ 2 _ _ _ g1
 have z3:w1.cell? ⟨w.heap.size,3,none⟩=some (.int .u8 ((D1:Nat):Int)):=cR _ _ 3 _ _ _ g1
 have z4:w1.cell? ⟨w.heap.size,4,none⟩=some (.int .i32 M2):=cR _ _ 4 _ _ _ g1
 have z5:w1.cell? ⟨w.heap.size,5,none⟩=some (.int .u8 ((D2:Nat):Int)):=cR _ _ 5 _ _ _ g1
 replace b1:=hid b1
 replace g1:=hid g1
 replace g2:=hid g2
 replace g3:=hid g3
 replace ex:=hid ex
 replace ey:=hid ey
 replace el:=hid el
 replace eh:=hid eh
 replace er:=hid er
 replace h1:=hid h1
 replace h2:=hid h2
 replace h3:=hid h3
 replace h4:=hid h4
 replace h5:=hid h5
 replace h6:=hid h6
 replace h7:=hid h7
 replace h8:=hid h8
 replace h9:=hid h9
 go_enter Tryz.func6,Tryz.ntmps6
 go_upto_region 1 with fail
 rw [←hw]
 clear hw
 have HX:=hid (Ia' (w:=w1) h1.out h2.out h3.out h4.out h5.out h6.out ex.out ey.out el.out eh.out)
 go_wp2_with fail
 refine (HX.out).mono ?_
 rintro e w2 ⟨va2,vb2,rfl,ha2,hb2,b2⟩
 obtain ⟨C1,j1,C2,j2,C3,j3,C4,j4,rfl,-,-,-,-⟩:=id ha2.opened
 replace ha2:=hid ha2
 obtain ⟨C5,j5,C6,j6,C7,j7,C8,j8,rfl,-,-,-,-⟩:=id hb2.opened
 replace hb2:=hid hb2
 replace b2:=hid b2
 clear HX
 have hlR:=Al' (Ab' g3.out b2.out)
 go_upto_region 2 with fail
 obtain ⟨w3,hw3⟩:=eX ((w2.alloc (.cells #[.bool (decide (lo.num<0)),.slice C1 (Vx.len lo.num.natAbs) j1,.slice C2 (Vx.len (below lo.den)) j2,.bool (decide (hi.num<0)),.slice C3 (Vx.len hi.num.natAbs) j3,.slice C4 (Vx.len (below hi.den)) j4] 37)).alloc (.cells #[.bool (decide (lo.num<0)),.slice C5 (len lo.num.natAbs) j5,.slice C6 (len lo.den) j6,.bool (decide (hi.num<0)),.slice C7 (len hi.num.natAbs) j7,.slice C8 (len hi.den) j8] 45))
 obtain ⟨b3,L3,M3⟩:=Ch hw3
 rw [←hw3]
 clear hw3
 replace b3:=hid b3
 replace L3:=hid L3
 replace M3:=hid M3
 clear z0 z1 z2 z3 z4 z5
 have y1_3:=hid (bS b2.out b3.out)
 have gT:=Ab' g1.out y1_3.out
 have z0:w3.cell? ⟨w.heap.size,0,none⟩=some (.int .i32 M0):=cR _ _ 0 _ _ _ gT
 have z1:w3.cell? ⟨w.heap.size,1,none⟩=some (.int .u8 ((D0:Nat):Int)):=cR _ _ 1 _ _ _ gT
 have z2:w3.cell? ⟨w.heap.size,2,none⟩=some (.int .i32 M1):=cR _ _ 2 _ _ _ gT
 have z3:w3.cell? ⟨w.heap.size,3,none⟩=some (.int .u8 ((D1:Nat):Int)):=cR _ _ 3 _ _ _ gT
 have z4:w3.cell? ⟨w.heap.size,4,none⟩=some (.int .i32 M2):=cR _ _ 4 _ _ _ gT
 have z5:w3.cell? ⟨w.heap.size,5,none⟩=some (.int .u8 ((D2:Nat):Int)):=cR _ _ 5 _ _ _ gT
 have hT:=Al' gT
 obtain ⟨z_bx_0,z_bx_1,z_bx_2,z_bx_3,z_bx_4,z_bx_5⟩:=Aj L3.out
 obtain ⟨z_rb_0,z_rb_1,z_rb_2,z_rb_3,z_rb_4,z_rb_5⟩:=Aj M3.out
 have hbxl:=Al' L3.out
 have hrbl:=Al' M3.out
 go_wp2_with fail
 refine wp_region_held_drew (S:=(fun w'=>(w'.cell? ⟨w.heap.size,0,none⟩=w3.cell? ⟨w.heap.size,0,none⟩∧w'.cell? ⟨w.heap.size,1,none⟩=w3.cell? ⟨w.heap.size,1,none⟩∧w'.cell? ⟨w.heap.size,2,none⟩=w3.cell? ⟨w.heap.size,2,none⟩∧w'.cell? ⟨w.heap.size,3,none⟩=w3.cell? ⟨w.heap.size,3,none⟩∧w'.cell? ⟨w.heap.size,4,none⟩=w3.cell? ⟨w.heap.size,4,none⟩∧w'.cell? ⟨w.heap.size,5,none⟩=w3.cell? ⟨w.heap.size,5,none⟩∧w'.cell? ⟨w2.heap.size,0,none⟩=w3.cell? ⟨w2.heap.size,0,none⟩∧w'.cell? ⟨w2.heap.size,1,none⟩=w3.cell? ⟨w2.heap.size,1,none⟩∧w'.cell? ⟨w2.heap.size,2,none⟩=w3.cell? ⟨w2.heap.size,2,none⟩∧w'.cell? ⟨w2.heap.size,3,none⟩=w3.cell? ⟨w2.heap.size,3,none⟩∧w'.cell? ⟨w2.heap.size,4,none⟩=w3.cell? ⟨w2.heap.size,4,none⟩∧w'.cell? ⟨w2.heap.size,5,none⟩=w3.cell? ⟨w2.heap.size,5,none⟩∧w'.cell? ⟨w2.heap.size+1,0,none⟩=w3.cell? ⟨w2.heap.size+1,0,none⟩∧w'.cell? ⟨w2.heap.size+1,1,none⟩=w3.cell? ⟨w2.heap.size+1,1,none⟩∧w'.cell? ⟨w2.heap.size+1,2,none⟩=w3.cell? ⟨w2.heap.size+1,2,none⟩∧w'.cell? ⟨w2.heap.size+1,3,none⟩=w3.cell? ⟨w2.heap.size+1,3,none⟩∧w'.cell? ⟨w2.heap.size+1,4,none⟩=w3.cell? ⟨w2.heap.size+1,4,none⟩∧w'.cell? ⟨w2.heap.size+1,5,none⟩=w3.cell? ⟨w2.heap.size+1,5,none⟩))) (by kernel_rfl) ?_ (fun hHeld=>?_)
 · (try dsimp only)
   exact ⟨rfl,rfl,rfl,rfl,rfl,rfl,rfl,rfl,rfl,rfl,rfl,rfl,rfl,rfl,rfl,rfl,rfl,rfl⟩
 obtain ⟨w4,hw4⟩:=eX w3.drew
 have b4:Hid (Below w3.heap.size w3 w4):=hid (by rw [hw4];exact ⟨rfl,rfl,rfl,nL _,fun _ _=>rfl⟩)
 rw [←hw4] at hHeld ⊢
 clear hw4
 have y0_4:=hid (bS (bS (bS b1.out b2.out) b3.out) b4.out)
 have lbW:w.heap.size≤w4.heap.size:=y0_4.out.size
 have lbS:w3.heap.size≤w4.heap.size:=b4.out.size
 have y1_4:=hid (bS y1_3.out b4.out)
 have lc_R1:w.heap.size+1<w4.heap.size:=Al' (Ab' g2.out y1_4.out)
 have lc_R2:w.heap.size+2<w4.heap.size:=Al' (Ab' g3.out y1_4.out)
 refine tk (i:=0) (h:=?_)
 try simp only [Act.put,lt,ly,lu]
 refine tk (i:=1) (h:=?_)
 try simp only [Act.put,lt,ly,lu]
 refine tk (i:=2) (h:=?_)
 try simp only [Act.put,lt,ly,lu]
 refine tk (i:=5) (h:=?_)
 try simp only [Act.put,lt,ly,lu]
 refine tk (i:=6) (h:=?_)
 try simp only [Act.put,lt,ly,lu]
 refine tk (i:=7) (h:=?_)
 try simp only [Act.put,lt,ly,lu]
 refine rdz (i:=3) (h:=fun K hK=>?_)
 go_simp;go_at_call 9
 refine (Bw h7.out h8.out h9.out er.out).mono ?_
 rintro e w5 ⟨v5,rfl,hv5,b5⟩
 obtain ⟨C9,j9,C10,j10,rfl,-,-⟩:=id hv5.opened
 replace hv5:=hid hv5
 replace b5:=hid b5
 have y3_5:=hid (bS b4.out b5.out)
 have hS:=y3_5.out
 clear hHeld
 refine hK.out _ _ ?_ (fun hHeld=>?_)
 · (try dsimp only)
   exact ⟨hS.cell (p:=⟨w.heap.size,0,none⟩) hT,hS.cell (p:=⟨w.heap.size,1,none⟩) hT,hS.cell (p:=⟨w.heap.size,2,none⟩) hT,hS.cell (p:=⟨w.heap.size,3,none⟩) hT,hS.cell (p:=⟨w.heap.size,4,none⟩) hT,hS.cell (p:=⟨w.heap.size,5,none⟩) hT,hS.cell (p:=⟨w2.heap.size,0,none⟩) hbxl,hS.cell (p:=⟨w2.heap.size,1,none⟩) hbxl,hS.cell (p:=⟨w2.heap.size,2,none⟩) hbxl,hS.cell (p:=⟨w2.heap.size,3,none⟩) hbxl,hS.cell (p:=⟨w2.heap.size,4,none⟩) hbxl,hS.cell (p:=⟨w2.heap.size,5,none⟩) hbxl,hS.cell (p:=⟨w2.heap.size+1,0,none⟩) hrbl,hS.cell (p:=⟨w2.heap.size+1,1,none⟩) hrbl,hS.cell (p:=⟨w2.heap.size+1,2,none⟩) hrbl,hS.cell (p:=⟨w2.heap.size+1,3,none⟩) hrbl,hS.cell (p:=⟨w2.heap.size+1,4,none⟩) hrbl,hS.cell (p:=⟨w2.heap.size+1,5,none⟩) hrbl⟩
 clear hK K hS;try simp only [Act.put,lt,ly,lu]
 refine tk (i:=4) (h:=?_)
 try simp only [Act.put,lt,ly,lu]
 refine rdz (i:=8) (h:=fun K hK=>?_)
 go_simp;go_at_call 12
 refine (Bw' h7.out h8.out h9.out er.out).mono ?_
 rintro e w6 ⟨v6,rfl,hv6,b6⟩
 obtain ⟨C11,j11,C12,j12,rfl,-,-⟩:=id hv6.opened
 replace hv6:=hid hv6
 replace b6:=hid b6
 have y3_6:=hid (bS y3_5.out b6.out)
 have hS:=y3_6.out
 clear hHeld
 refine hK.out _ _ ?_ (fun hHeld=>?_)
 · (try dsimp only)
   exact ⟨hS.cell (p:=⟨w.heap.size,0,none⟩) hT,hS.cell (p:=⟨w.heap.size,1,none⟩) hT,hS.cell (p:=⟨w.heap.size,2,none⟩) hT,hS.cell (p:=⟨w.heap.size,3,none⟩) hT,hS.cell (p:=⟨w.heap.size,4,none⟩) hT,hS.cell (p:=⟨w.heap.size,5,none⟩) hT,hS.cell (p:=⟨w2.heap.size,0,none⟩) hbxl,hS.cell (p:=⟨w2.heap.size,1,none⟩) hbxl,hS.cell (p:=⟨w2.heap.size,2,none⟩) hbxl,hS.cell (p:=⟨w2.heap.size,3,none⟩) hbxl,hS.cell (p:=⟨w2.heap.size,4,none⟩) hbxl,hS.cell (p:=⟨w2.heap.size,5,none⟩) hbxl,hS.cell (p:=⟨w2.heap.size+1,0,none⟩) hrbl,hS.cell (p:=⟨w2.heap.size+1,1,none⟩) hrbl,hS.cell (p:=⟨w2.heap.size+1,2,none⟩) hrbl,hS.cell (p:=⟨w2.heap.size+1,3,none⟩) hrbl,hS.cell (p:=⟨w2.heap.size+1,4,none⟩) hrbl,hS.cell (p:=⟨w2.heap.size+1,5,none⟩) hrbl⟩
 clear hK K hS;try simp only [Act.put,lt,ly,lu]
 refine tk (i:=9) (h:=?_)
 try simp only [Act.put,lt,ly,lu]
 refine rdz (i:=10) (h:=fun K hK=>?_)
 have y1_6:=hid (bS (bS y1_4.out b5.out) b6.out)
 have DBq12:=Ab' g2.out y1_6.out
 have q0:w6.cell? ⟨w.heap.size+1,0,none⟩=some (.bool false):=cR _ _ _ _ _ _ DBq12
 have F0:w6.frozen? ⟨w.heap.size+1,0,none⟩=false:=fR w6 (w.heap.size+1) 0 _ _ DBq12
 have q1:w6.cell? ⟨w.heap.size+1,1,none⟩=some (.slice none 0 0):=cR _ _ _ _ _ _ DBq12
 have F1:w6.frozen? ⟨w.heap.size+1,1,none⟩=false:=fR w6 (w.heap.size+1) 1 _ _ DBq12
 have q2:w6.cell? ⟨w.heap.size+1,2,none⟩=some (.slice none 0 0):=cR _ _ _ _ _ _ DBq12
 have F2:w6.frozen? ⟨w.heap.size+1,2,none⟩=false:=fR w6 (w.heap.size+1) 2 _ _ DBq12
 have q3:w6.cell? ⟨w.heap.size+1,3,none⟩=some (.bool false):=cR _ _ _ _ _ _ DBq12
 have F3:w6.frozen? ⟨w.heap.size+1,3,none⟩=false:=fR w6 (w.heap.size+1) 3 _ _ DBq12
 have q4:w6.cell? ⟨w.heap.size+1,4,none⟩=some (.slice none 0 0):=cR _ _ _ _ _ _ DBq12
 have F4:w6.frozen? ⟨w.heap.size+1,4,none⟩=false:=fR w6 (w.heap.size+1) 4 _ _ DBq12
 have q5:w6.cell? ⟨w.heap.size+1,5,none⟩=some (.slice none 0 0):=cR _ _ _ _ _ _ DBq12
 have F5:w6.frozen? ⟨w.heap.size+1,5,none⟩=false:=fR w6 (w.heap.size+1) 5 _ _ DBq12
 have q6:w6.cell? ⟨w.heap.size+1,6,none⟩=some (.bool false):=cR _ _ _ _ _ _ DBq12
 have F6:w6.frozen? ⟨w.heap.size+1,6,none⟩=false:=fR w6 (w.heap.size+1) 6 _ _ DBq12
 have q7:w6.cell? ⟨w.heap.size+1,7,none⟩=some (.slice none 0 0):=cR _ _ _ _ _ _ DBq12
 have F7:w6.frozen? ⟨w.heap.size+1,7,none⟩=false:=fR w6 (w.heap.size+1) 7 _ _ DBq12
 have q8:w6.cell? ⟨w.heap.size+1,8,none⟩=some (.slice none 0 0):=cR _ _ _ _ _ _ DBq12
 have F8:w6.frozen? ⟨w.heap.size+1,8,none⟩=false:=fR w6 (w.heap.size+1) 8 _ _ DBq12
 have y0_6:=hid (bS (bS y0_4.out b5.out) b6.out)
 have y2_6:=hid (bS (bS (bS b3.out b4.out) b5.out) b6.out)
 have hS:=y3_6.out
 have hz7:w3.heap.size≤w6.heap.size:=hS.size
 go_simp
 clear q0 F0 q1 F1 q2 F2 q3 F3 q4 F4 q5 F5 q6 F6 q7 F7 q8 F8
 have FV:=hid True.intro
 have FB:=hid y0_6.out
 obtain ⟨w7,hw⟩:=eX ((((((((((w6.setCell ⟨w.heap.size+1,0,none⟩ (.bool (decide (lo.num<0)))).setCell ⟨w.heap.size+1,1,none⟩ (.slice C1 (Vx.len lo.num.natAbs) j1)).setCell ⟨w.heap.size+1,2,none⟩ (.slice C2 (Vx.len (below lo.den)) j2)).setCell ⟨w.heap.size+1,3,none⟩ (.bool (decide (hi.num<0)))).setCell ⟨w.heap.size+1,4,none⟩ (.slice C3 (Vx.len hi.num.natAbs) j3)).setCell ⟨w.heap.size+1,5,none⟩ (.slice C4 (Vx.len (below hi.den)) j4)).setCell ⟨w.heap.size+1,6,none⟩ (.bool (decide (r.num<0)))).setCell ⟨w.heap.size+1,7,none⟩ (.slice C9 (Vx.len r.num.natAbs) j9)).setCell ⟨w.heap.size+1,8,none⟩ (.slice C10 (Vx.len (below r.den)) j10)))
 have hse7:w7.heap.size=w6.heap.size:=by rw [hw];simp
 obtain ⟨E,OT,LV,BL⟩:=FU DBq12 hw
 rw [←hw]
 clear hw
 have L7:=hid E
 have FB7:=hid (BL _ _ (by omega) FB.out)
 have LKR27:=hid (OT _ _ (by omega) (Ab' g3.out y1_6.out))
 have KVbx7:=hid (LV.box (ha2.out.keep y2_6.out))
 have KVrb7:=hid (LV.rbox (hb2.out.keep y2_6.out))
 have KVer7:=hid (LV.num (hv5.out.keep b6.out))
 have KVrr7:=hid (LV.rat hv6.out)
 have s0_7:w7.cell? ⟨w.heap.size,0,none⟩=w3.cell? ⟨w.heap.size,0,none⟩:=(cell_other OT (by omega) (ltl hT hz7)).trans (hS.cell (p:=⟨w.heap.size,0,none⟩) hT)
 have s1_7:w7.cell? ⟨w.heap.size,1,none⟩=w3.cell? ⟨w.heap.size,1,none⟩:=(cell_other OT (by omega) (ltl hT hz7)).trans (hS.cell (p:=⟨w.heap.size,1,none⟩) hT)
 have s2_7:w7.cell? ⟨w.heap.size,2,none⟩=w3.cell? ⟨w.heap.size,2,none⟩:=(cell_other OT (by omega) (ltl hT hz7)).trans (hS.cell (p:=⟨w.heap.size,2,none⟩) hT)
 have s3_7:w7.cell? ⟨w.heap.size,3,none⟩=w3.cell? ⟨w.heap.size,3,none⟩:=(cell_other OT (by omega) (ltl hT hz7)).trans (hS.cell (p:=⟨w.heap.size,3,none⟩) hT)
 have s4_7:w7.cell? ⟨w.heap.size,4,none⟩=w3.cell? ⟨w.heap.size,4,none⟩:=(cell_other OT (by omega) (ltl hT hz7)).trans (hS.cell (p:=⟨w.heap.size,4,none⟩) hT)
 have s5_7:w7.cell? ⟨w.heap.size,5,none⟩=w3.cell? ⟨w.heap.size,5,none⟩:=(cell_other OT (by omega) (ltl hT hz7)).trans (hS.cell (p:=⟨w.heap.size,5,none⟩) hT)
 have s6_7:w7.cell? ⟨w2.heap.size,0,none⟩=w3.cell? ⟨w2.heap.size,0,none⟩:=(cell_other OT (by omega) (ltl hbxl hz7)).trans (hS.cell (p:=⟨w2.heap.size,0,none⟩) hbxl)
 have s7_7:w7.cell? ⟨w2.heap.size,1,none⟩=w3.cell? ⟨w2.heap.size,1,none⟩:=(cell_other OT (by omega) (ltl hbxl hz7)).trans (hS.cell (p:=⟨w2.heap.size,1,none⟩) hbxl)
 have s8_7:w7.cell? ⟨w2.heap.size,2,none⟩=w3.cell? ⟨w2.heap.size,2,none⟩:=(cell_other OT (by omega) (ltl hbxl hz7)).trans (hS.cell (p:=⟨w2.heap.size,2,none⟩) hbxl)
 have s9_7:w7.cell? ⟨w2.heap.size,3,none⟩=w3.cell? ⟨w2.heap.size,3,none⟩:=(cell_other OT (by omega) (ltl hbxl hz7)).trans (hS.cell (p:=⟨w2.heap.size,3,none⟩) hbxl)
 have s10_7:w7.cell? ⟨w2.heap.size,4,none⟩=w3.cell? ⟨w2.heap.size,4,none⟩:=(cell_other OT (by omega) (ltl hbxl hz7)).trans (hS.cell (p:=⟨w2.heap.size,4,none⟩) hbxl)
 have s11_7:w7.cell? ⟨w2.heap.size,5,none⟩=w3.cell? ⟨w2.heap.size,5,none⟩:=(cell_other OT (by omega) (ltl hbxl hz7)).trans (hS.cell (p:=⟨w2.heap.size,5,none⟩) hbxl)
 have s12_7:w7.cell? ⟨w2.heap.size+1,0,none⟩=w3.cell? ⟨w2.heap.size+1,0,none⟩:=(cell_other OT (by omega) (ltl hrbl hz7)).trans (hS.cell (p:=⟨w2.heap.size+1,0,none⟩) hrbl)
 have s13_7:w7.cell? ⟨w2.heap.size+1,1,none⟩=w3.cell? ⟨w2.heap.size+1,1,none⟩:=(cell_other OT (by omega) (ltl hrbl hz7)).trans (hS.cell (p:=⟨w2.heap.size+1,1,none⟩) hrbl)
 have s14_7:w7.cell? ⟨w2.heap.size+1,2,none⟩=w3.cell? ⟨w2.heap.size+1,2,none⟩:=(cell_other OT (by omega) (ltl hrbl hz7)).trans (hS.cell (p:=⟨w2.heap.size+1,2,none⟩) hrbl)
 have s15_7:w7.cell? ⟨w2.heap.size+1,3,none⟩=w3.cell? ⟨w2.heap.size+1,3,none⟩:=(cell_other OT (by omega) (ltl hrbl hz7)).trans (hS.cell (p:=⟨w2.heap.size+1,3,none⟩) hrbl)
 have s16_7:w7.cell? ⟨w2.heap.size+1,4,none⟩=w3.cell? ⟨w2.heap.size+1,4,none⟩:=(cell_other OT (by omega) (ltl hrbl hz7)).trans (hS.cell (p:=⟨w2.heap.size+1,4,none⟩) hrbl)
 have s17_7:w7.cell? ⟨w2.heap.size+1,5,none⟩=w3.cell? ⟨w2.heap.size+1,5,none⟩:=(cell_other OT (by omega) (ltl hrbl hz7)).trans (hS.cell (p:=⟨w2.heap.size+1,5,none⟩) hrbl)
 refine hK.out _ _ ?_ (fun hHeld2=>?_)
 · (try dsimp only)
   exact ⟨s0_7,s1_7,s2_7,s3_7,s4_7,s5_7,s6_7,s7_7,s8_7,s9_7,s10_7,s11_7,s12_7,s13_7,s14_7,s15_7,s16_7,s17_7⟩
 clear hK K hHeld hS OT LV BL FV FB E DBq12
 try simp only [Act.put,lt,ly,lu]
 have hHeld:=hHeld2
 clear hHeld2
 refine rdz (i:=11) (h:=fun K hK=>?_)
 have DBq14:=Ab' LKR27.out (Below.refl _ w7)
 have q0:w7.cell? ⟨w.heap.size+2,0,none⟩=some (.bool false):=cR _ _ _ _ _ _ DBq14
 have F0:w7.frozen? ⟨w.heap.size+2,0,none⟩=false:=fR w7 (w.heap.size+2) 0 _ _ DBq14
 have q1:w7.cell? ⟨w.heap.size+2,1,none⟩=some (.slice none 0 0):=cR _ _ _ _ _ _ DBq14
 have F1:w7.frozen? ⟨w.heap.size+2,1,none⟩=false:=fR w7 (w.heap.size+2) 1 _ _ DBq14
 have q2:w7.cell? ⟨w.heap.size+2,2,none⟩=some (.slice none 0 0):=cR _ _ _ _ _ _ DBq14
 have F2:w7.frozen? ⟨w.heap.size+2,2,none⟩=false:=fR w7 (w.heap.size+2) 2 _ _ DBq14
 have q3:w7.cell? ⟨w.heap.size+2,3,none⟩=some (.bool false):=cR _ _ _ _ _ _ DBq14
 have F3:w7.frozen? ⟨w.heap.size+2,3,none⟩=false:=fR w7 (w.heap.size+2) 3 _ _ DBq14
 have q4:w7.cell? ⟨w.heap.size+2,4,none⟩=some (.slice none 0 0):=cR _ _ _ _ _ _ DBq14
 have F4:w7.frozen? ⟨w.heap.size+2,4,none⟩=false:=fR w7 (w.heap.size+2) 4 _ _ DBq14
 have q5:w7.cell? ⟨w.heap.size+2,5,none⟩=some (.slice none 0 0):=cR _ _ _ _ _ _ DBq14
 have F5:w7.frozen? ⟨w.heap.size+2,5,none⟩=false:=fR w7 (w.heap.size+2) 5 _ _ DBq14
 have q6:w7.cell? ⟨w.heap.size+2,6,none⟩=some (.bool false):=cR _ _ _ _ _ _ DBq14
 have F6:w7.frozen? ⟨w.heap.size+2,6,none⟩=false:=fR w7 (w.heap.size+2) 6 _ _ DBq14
 have q7:w7.cell? ⟨w.heap.size+2,7,none⟩=some (.slice none 0 0):=cR _ _ _ _ _ _ DBq14
 have F7:w7.frozen? ⟨w.heap.size+2,7,none⟩=false:=fR w7 (w.heap.size+2) 7 _ _ DBq14
 have q8:w7.cell? ⟨w.heap.size+2,8,none⟩=some (.slice none 0 0):=cR _ _ _ _ _ _ DBq14
 have F8:w7.frozen? ⟨w.heap.size+2,8,none⟩=false:=fR w7 (w.heap.size+2) 8 _ _ DBq14
 have hz8:w3.heap.size≤w7.heap.size:=nT hz7 (Nat.le_of_eq hse7.symm)
 go_simp
 clear q0 F0 q1 F1 q2 F2 q3 F3 q4 F4 q5 F5 q6 F6 q7 F7 q8 F8
 have FV:=hid True.intro
 have FB:=hid FB7.out
 obtain ⟨w8,hw⟩:=eX ((((((((((w7.setCell ⟨w.heap.size+2,0,none⟩ (.bool (decide (lo.num<0)))).setCell ⟨w.heap.size+2,1,none⟩ (.slice C5 (len lo.num.natAbs) j5)).setCell ⟨w.heap.size+2,2,none⟩ (.slice C6 (len lo.den) j6)).setCell ⟨w.heap.size+2,3,none⟩ (.bool (decide (hi.num<0)))).setCell ⟨w.heap.size+2,4,none⟩ (.slice C7 (len hi.num.natAbs) j7)).setCell ⟨w.heap.size+2,5,none⟩ (.slice C8 (len hi.den) j8)).setCell ⟨w.heap.size+2,6,none⟩ (.bool (decide (r.num<0)))).setCell ⟨w.heap.size+2,7,none⟩ (.slice C11 (len r.num.natAbs) j11)).setCell ⟨w.heap.size+2,8,none⟩ (.slice C12 (len r.den) j12)))
 have hse8:w8.heap.size=w7.heap.size:=by rw [hw];simp
 obtain ⟨E,OT,LV,BL⟩:=FU DBq14 hw
 rw [←hw]
 clear hw
 have L8:=hid E
 have FB8:=hid (BL _ _ (by omega) FB.out)
 have LKR18:=hid (OT _ _ (by omega) (Ab' L7.out (Below.refl _ w7)))
 have KVbx8:=hid (LV.box KVbx7.out)
 have KVrb8:=hid (LV.rbox KVrb7.out)
 have KVer8:=hid (LV.num KVer7.out)
 have KVrr8:=hid (LV.rat KVrr7.out)
 have s0_8:w8.cell? ⟨w.heap.size,0,none⟩=w3.cell? ⟨w.heap.size,0,none⟩:=(cell_other OT (by omega) (ltl hT hz8)).trans s0_7
 have s1_8:w8.cell? ⟨w.heap.size,1,none⟩=w3.cell? ⟨w.heap.size,1,none⟩:=(cell_other OT (by omega) (ltl hT hz8)).trans s1_7
 have s2_8:w8.cell? ⟨w.heap.size,2,none⟩=w3.cell? ⟨w.heap.size,2,none⟩:=(cell_other OT (by omega) (ltl hT hz8)).trans s2_7
 have s3_8:w8.cell? ⟨w.heap.size,3,none⟩=w3.cell? ⟨w.heap.size,3,none⟩:=(cell_other OT (by omega) (ltl hT hz8)).trans s3_7
 have s4_8:w8.cell? ⟨w.heap.size,4,none⟩=w3.cell? ⟨w.heap.size,4,none⟩:=(cell_other OT (by omega) (ltl hT hz8)).trans s4_7
 have s5_8:w8.cell? ⟨w.heap.size,5,none⟩=w3.cell? ⟨w.heap.size,5,none⟩:=(cell_other OT (by omega) (ltl hT hz8)).trans s5_7
 have s6_8:w8.cell? ⟨w2.heap.size,0,none⟩=w3.cell? ⟨w2.heap.size,0,none⟩:=(cell_other OT (by omega) (ltl hbxl hz8)).trans s6_7
 have s7_8:w8.cell? ⟨w2.heap.size,1,none⟩=w3.cell? ⟨w2.heap.size,1,none⟩:=(cell_other OT (by omega) (ltl hbxl hz8)).trans s7_7
 have s8_8:w8.cell? ⟨w2.heap.size,2,none⟩=w3.cell? ⟨w2.heap.size,2,none⟩:=(cell_other OT (by omega) (ltl hbxl hz8)).trans s8_7
 have s9_8:w8.cell? ⟨w2.heap.size,3,none⟩=w3.cell? ⟨w2.heap.size,3,none⟩:=(cell_other OT (by omega) (ltl hbxl hz8)).trans s9_7
 have s10_8:w8.cell? ⟨w2.heap.size,4,none⟩=w3.cell? ⟨w2.heap.size,4,none⟩:=(cell_other OT (by omega) (ltl hbxl hz8)).trans s10_7
 have s11_8:w8.cell? ⟨w2.heap.size,5,none⟩=w3.cell? ⟨w2.heap.size,5,none⟩:=(cell_other OT (by omega) (ltl hbxl hz8)).trans s11_7
 have s12_8:w8.cell? ⟨w2.heap.size+1,0,none⟩=w3.cell? ⟨w2.heap.size+1,0,none⟩:=(cell_other OT (by omega) (ltl hrbl hz8)).trans s12_7
 have s13_8:w8.cell? ⟨w2.heap.size+1,1,none⟩=w3.cell? ⟨w2.heap.size+1,1,none⟩:=(cell_other OT (by omega) (ltl hrbl hz8)).trans s13_7
 have s14_8:w8.cell? ⟨w2.heap.size+1,2,none⟩=w3.cell? ⟨w2.heap.size+1,2,none⟩:=(cell_other OT (by omega) (ltl hrbl hz8)).trans s14_7
 have s15_8:w8.cell? ⟨w2.heap.size+1,3,none⟩=w3.cell? ⟨w2.heap.size+1,3,none⟩:=(cell_other OT (by omega) (ltl hrbl hz8)).trans s15_7
 have s16_8:w8.cell? ⟨w2.heap.size+1,4,none⟩=w3.cell? ⟨w2.heap.size+1,4,none⟩:=(cell_other OT (by omega) (ltl hrbl hz8)).trans s16_7
 have s17_8:w8.cell? ⟨w2.heap.size+1,5,none⟩=w3.cell? ⟨w2.heap.size+1,5,none⟩:=(cell_other OT (by omega) (ltl hrbl hz8)).trans s17_7
 refine hK.out _ _ ?_ (fun hHeld2=>?_)
 · (try dsimp only)
   exact ⟨s0_8,s1_8,s2_8,s3_8,s4_8,s5_8,s6_8,s7_8,s8_8,s9_8,s10_8,s11_8,s12_8,s13_8,s14_8,s15_8,s16_8,s17_8⟩
 clear hK K hHeld  OT LV BL FV FB E DBq14
 try simp only [Act.put,lt,ly,lu]
 have hHeld:=hHeld2
 clear hHeld2
 refine wpAnyH_done (by kernel_rfl) ?_ _
 clear hHeld
 have HBX:=hid KVbx8.out
 have HRB:=hid KVrb8.out
 have HER:=hid KVer8.out
 have HRR:=hid KVrr8.out
 have FB:=hid FB8.out
 obtain ⟨r0,r1,r2,r3,r4,r5,r6,r7,r8⟩:=AY LKR18.out
 obtain ⟨q0,q1,q2,q3,q4,q5,q6,q7,q8⟩:=AY L8.out
 go_wp2_with fail
 refine bP (v:=.tuple #[.agg #[.bool (decide (lo.num<0)),.slice C1 (Vx.len lo.num.natAbs) j1,.slice C2 (Vx.len (below lo.den)) j2,.bool (decide (hi.num<0)),.slice C3 (Vx.len hi.num.natAbs) j3,.slice C4 (Vx.len (below hi.den)) j4,.bool (decide (r.num<0)),.slice C9 (Vx.len r.num.natAbs) j9,.slice C10 (Vx.len (below r.den)) j10],.agg #[.bool (decide (lo.num<0)),.slice C5 (len lo.num.natAbs) j5,.slice C6 (len lo.den) j6,.bool (decide (hi.num<0)),.slice C7 (len hi.num.natAbs) j7,.slice C8 (len hi.den) j8,.bool (decide (r.num<0)),.slice C11 (len r.num.natAbs) j11,.slice C12 (len r.den) j12]]) ?_ rfl ⟨_,_,rfl,⟨_,_,_,_,_,_,_,_,_,_,_,_,rfl,HBX.out,HER.out⟩,⟨_,_,_,_,_,_,_,_,_,_,_,_,rfl,HRB.out,HRR.out⟩,FB.out⟩
 simp [results,Tryz.results6,go_sem,r0,r1,r2,r3,r4,r5,r6,r7,r8,q0,q1,q2,q3,q4,q5,q6,q7,q8]
end Go.Proofs.YtflopjfnppolgaaGreatDoor.Rf
