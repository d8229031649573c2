/-
  Contracts of the functions that the law calls, for every input (Rkc).
-/
import Derived.Test.YtcicfnlljdnagaaGreatDoorY00
import Derived.Test.YtcicfnlljdnagaaGreatDoorY41
set_option linter.all false
set_option maxRecDepth 100000
set_option maxHeartbeats 40000000
namespace Go.Proofs.YtcicfnlljdnagaaGreatDoor.Rf
open Lib (hid)
open Go.RowKit
open Rx
open Vx (Ab' Ah Ah')
open List renaming getElem?_toArray → lg, getElem?_cons_zero → lz, getElem?_cons_succ → ls, setIfInBounds_toArray → lt, set_cons_zero → ly, set_cons_succ → lu
theorem Hf {p q a b r z v:Rat} (e1:((4:Int):Rat)=p) (e2:((6:Int):Rat)=q) (ea:mkRat 1 2=a) (eb:mkRat 3 4=b) (er:0=r) (ez:mkRat 20 3=z) (ev:(8:Rat)=v):(cornLo Bf (p - r) (p+r) (q - r) (q+r) a b=z∧cornHi Bf (p - r) (p+r) (q - r) (q+r) a b=v)∧Ab' p≤9∧Ab' q≤9:=by
 subst e1 e2 ea eb er ez ev
 decide +kernel
theorem H6' {p q a:Rat} (e1:((8:Int):Rat)=p) (e2:((1:Int):Rat)=q) (ea:mkRat 1 2=a):(AJ p a 3≤q∧q<AJ p a 0∧q<AJ p a 1∧q<AJ p a 2)∧(0≤p∧0≤q)∧Ab' p≤9∧Ab' q≤9:=by
 subst e1 e2 ea
 decide +kernel
theorem GB' {p a b x y:Rat} (e1:((8:Int):Rat)=p) (ea:mkRat 1 2=a) (eb:mkRat 3 4=b) (ex:(6:Rat)=x) (ey:mkRat 15 2=y):Bf' a b (0,0) [(p,p),(p,p)] 2=(x,y)∧(∀ k:Fin 3,Ab' (Bf' a b (0,0) [(p,p),(p,p)] k.val).1≤99∧Ab' (Bf' a b (0,0) [(p,p),(p,p)] k.val).2≤99)∧Ab' p≤9:=by
 subst e1 ea eb ex ey
 decide +kernel
theorem EX' {w:World} {P:Nat} {a b r:Rat} {A1 B1 A2 B2 A3 B3:Option Addr} {c1 d1 c2 d2 c3 d3:Nat} {x y:Rat} {g:Nat} {A4 B4 A5 B5:Option Addr} {c4 d4 c5 d5:Nat} {y0 y2 y7 y8 y9 y10 y11 y12 y13 y14 y15 y16 y17 y18 y19 y20 y21 y22 y23 y24 y25 y26 y27 y28 y29 y30 y31 y32 y33 y34 y35 y36 y37 y38 y39 y40 y41 y42 y43 y44 y45 y46 y47 y48 y49 y50 y51 y52 y53 y54 y55 y56 y57 y58 y59 y60 y61 y62 y63 y64 y65 y66 y67 y68 y69 y70 y71 y72 y73 y74 y75 y76 y77 y78 y79 y80 y81 y82 y83 y84 y85 y86 y87 y88 y89 y90 y91 y92 y93 y94 y95 y96 y97 y98 y99 y100 y101 y102 y103 y104 y105 y106 y107 y108 y109 y110 y111 y112 y113:Value} {Po:Ending→World→Prop} (hP:w.heap[P]?=some (.cells #[.bool (decide (a.num<0)),.slice A1 (Vx.len a.num.natAbs) c1,.slice B1 (Vx.len (below a.den)) d1,.bool (decide (b.num<0)),.slice A2 (Vx.len b.num.natAbs) c2,.slice B2 (Vx.len (below b.den)) d2,.bool (decide (r.num<0)),.slice A3 (Vx.len r.num.natAbs) c3,.slice B3 (Vx.len (below r.den)) d3] 71 (0,0))) (hp:AQ' w (.agg #[.bool (decide (a.num<0)),.slice A1 (Vx.len a.num.natAbs) c1,.slice B1 (Vx.len (below a.den)) d1,.bool (decide (b.num<0)),.slice A2 (Vx.len b.num.natAbs) c2,.slice B2 (Vx.len (below b.den)) d2,.bool (decide (r.num<0)),.slice A3 (Vx.len r.num.natAbs) c3,.slice B3 (Vx.len (below r.den)) d3]) a b r) (ea:mkRat 1 2=a) (eb:mkRat 3 4=b) (er:0=r) (hf:w.cell? ⟨g,6,none⟩=some (.bool (decide (x.num<0)))∧w.cell? ⟨g,7,none⟩=some (.slice A4 (Vx.len x.num.natAbs) c4)∧w.cell? ⟨g,8,none⟩=some (.slice B4 (Vx.len (below x.den)) d4)∧w.cell? ⟨g,9,none⟩=some (.bool (decide (y.num<0)))∧w.cell? ⟨g,10,none⟩=some (.slice A5 (Vx.len y.num.natAbs) c5)∧w.cell? ⟨g,11,none⟩=some (.slice B5 (Vx.len (below y.den)) d5)) (hfb:Aj w (.agg #[.bool (decide (x.num<0)),.slice A4 (Vx.len x.num.natAbs) c4,.slice B4 (Vx.len (below x.den)) d4,.bool (decide (y.num<0)),.slice A5 (Vx.len y.num.natAbs) c5,.slice B5 (Vx.len (below y.den)) d5]) x y) (ex:(6:Rat)=x) (ey:mkRat 15 2=y) (hT:TabAt 0 Lib.deBruijn64tab w) (hPo:∀ w',Below w.heap.size w w'→Po (.returned (.bool true)) w') :
   (codeAt 4 Tryz.f7).wp Tryz.prog (bodyPost Tryz.prog Tryz.f7 Po) { tmps:=#[y0,.pointer (some ⟨P,0,none⟩),y2,.slice (some ⟨g,0,none⟩) 2 2,.int .i64 0,.int .i64 3,.int .i64 0,y7,y8,y9,y10,y11,y12,y13,y14,y15,y16,y17,y18,y19,y20,y21,y22,y23,y24,y25,y26,y27,y28,y29,y30,y31,y32,y33,y34,y35,y36,y37,y38,y39,y40,y41,y42,y43,y44,y45,y46,y47,y48,y49,y50,y51,y52,y53,y54,y55,y56,y57,y58,y59,y60,y61,y62,y63,y64,y65,y66,y67,y68,y69,y70,y71,y72,y73,y74,y75,y76,y77,y78,y79,y80,y81,y82,y83,y84,y85,y86,y87,y88,y89,y90,y91,y92,y93,y94,y95,y96,y97,y98,y99,y100,y101,y102,y103,y104,y105,y106,y107,y108,y109,y110,y111,y112,y113],defers:=[] } w:=by
 obtain ⟨m,em⟩:=eY (((4:Int):Rat):Rat)
 obtain ⟨n,en⟩:=eY (((6:Int):Rat):Rat)
 obtain ⟨z,ez⟩:=eY (mkRat 20 3:Rat)
 obtain ⟨v,ev⟩:=eY ((8:Rat):Rat)
 have KP:=hid (Dn ea eb er)
 have KQ:=hid (Hf em en ea eb er ez ev)
 obtain ⟨f0,f1,f2,f3,f4,f5⟩:=hf
 have hgl:=bL _ _ f0
 have hPl:=Af' hP
 obtain ⟨z0,z1,z2,z3,z4,z5,z6,z7,z8⟩:=CJ' hP
 have hr0:0≤r:=by rw [←er];exact Rat.le_refl
 replace ex:=hid ex
 replace ey:=hid ey
 replace ez:=hid ez
 replace ev:=hid ev
 replace em:=hid em
 replace en:=hid en
 replace ea:=hid ea
 replace eb:=hid eb
 replace er:=hid er
 replace hP:=hid hP
 replace hp:=hid hp
 replace hPo:=hid hPo
 replace hT:=hid hT
 replace hfb:=hid hfb
 replace hr0:=hid hr0
 show Code.wp _ (Code.seq _ _) _ _ _
 refine wp_seq_k ?_
 intro G hG
 replace hG:=hid hG
 go_wp2_with fail
 refine wp_region_held_drew (S:=(fun w'=>(w'.cell? ⟨P,0,none⟩=w.cell? ⟨P,0,none⟩∧w'.cell? ⟨P,1,none⟩=w.cell? ⟨P,1,none⟩∧w'.cell? ⟨P,2,none⟩=w.cell? ⟨P,2,none⟩∧w'.cell? ⟨P,3,none⟩=w.cell? ⟨P,3,none⟩∧w'.cell? ⟨P,4,none⟩=w.cell? ⟨P,4,none⟩∧w'.cell? ⟨P,5,none⟩=w.cell? ⟨P,5,none⟩∧w'.cell? ⟨P,6,none⟩=w.cell? ⟨P,6,none⟩∧w'.cell? ⟨P,7,none⟩=w.cell? ⟨P,7,none⟩∧w'.cell? ⟨P,8,none⟩=w.cell? ⟨P,8,none⟩))) (by kernel_rfl) ?_ (fun hHeld=>?_)
 · (try dsimp only)
   exact ⟨rfl,rfl,rfl,rfl,rfl,rfl,rfl,rfl,rfl⟩
 obtain ⟨w1,hw1⟩:=eX w.drew
 have b1:Hid (Below w.heap.size w w1):=hid (by rw [hw1];exact ⟨rfl,rfl,rfl,nL _,fun _ _=>rfl⟩)
 rw [←hw1] at hHeld ⊢
 clear hw1
 have lbW:w.heap.size≤w1.heap.size:=b1.out.size
 have lbS:w.heap.size≤w1.heap.size:=b1.out.size
 refine tk (i:=0) (h:=?_)
 try simp only [Act.put,lt,ly,lu]
 refine wpAnyH_ready (rs:=[1,8]) (by kernel_rfl) (by simp) (AllReadyH.cons (o:=?o1q1) ?e1q1 ?k1q1 (AllReadyH.cons (o:=?o8q1) ?e8q1 ?k8q1 AllReadyH.nil))
 case e1q1=>simp only [lg,lz,ls] <;> rfl
 case e8q1=>simp only [lg,lz,ls] <;> rfl
 case k1q1 =>
   intro K hK
   go_simp;go_at_call 25
   refine (Ay' (w:=w1) em.out (by omega) (by omega)).mono ?_
   rintro e w2 ⟨v2,rfl,hv2,b2⟩
   obtain ⟨C1,j1,C2,j2,rfl,-,-⟩:=id hv2.opened
   replace hv2:=hid hv2
   replace b2:=hid b2
   have y0_2:=hid (bS b1.out b2.out)
   have hS:=y0_2.out
   clear hHeld
   refine hK.out _ _ ?_ (fun hHeld=>?_)
   · (try dsimp only)
     exact ⟨hS.cell (p:=⟨P,0,none⟩) hPl,hS.cell (p:=⟨P,1,none⟩) hPl,hS.cell (p:=⟨P,2,none⟩) hPl,hS.cell (p:=⟨P,3,none⟩) hPl,hS.cell (p:=⟨P,4,none⟩) hPl,hS.cell (p:=⟨P,5,none⟩) hPl,hS.cell (p:=⟨P,6,none⟩) hPl,hS.cell (p:=⟨P,7,none⟩) hPl,hS.cell (p:=⟨P,8,none⟩) hPl⟩
   clear hK K hS;try simp only [Act.put,lt,ly,lu]
   refine wpAnyH_ready (rs:=[2,8]) (by kernel_rfl) (by simp) (AllReadyH.cons (o:=?o2q2) ?e2q2 ?k2q2 (AllReadyH.cons (o:=?o8q2) ?e8q2 ?k8q2 AllReadyH.nil))
   case e2q2=>simp only [lg,lz,ls] <;> rfl
   case e8q2=>simp only [lg,lz,ls] <;> rfl
   case k2q2 =>
     intro K hK
     go_simp;go_at_call 25
     refine (Ay' (w:=w2) en.out (by omega) (by omega)).mono ?_
     rintro e w3 ⟨v3,rfl,hv3,b3⟩
     obtain ⟨C3,j3,C4,j4,rfl,-,-⟩:=id hv3.opened
     replace hv3:=hid hv3
     replace b3:=hid b3
     have y0_3:=hid (bS y0_2.out b3.out)
     have hS:=y0_3.out
     clear hHeld
     refine hK.out _ _ ?_ (fun hHeld=>?_)
     · (try dsimp only)
       exact ⟨hS.cell (p:=⟨P,0,none⟩) hPl,hS.cell (p:=⟨P,1,none⟩) hPl,hS.cell (p:=⟨P,2,none⟩) hPl,hS.cell (p:=⟨P,3,none⟩) hPl,hS.cell (p:=⟨P,4,none⟩) hPl,hS.cell (p:=⟨P,5,none⟩) hPl,hS.cell (p:=⟨P,6,none⟩) hPl,hS.cell (p:=⟨P,7,none⟩) hPl,hS.cell (p:=⟨P,8,none⟩) hPl⟩
     clear hK K hS;try simp only [Act.put,lt,ly,lu]
     refine wpAnyH_ready (rs:=[3,8]) (by kernel_rfl) (by simp) (AllReadyH.cons (o:=?o3q3) ?e3q3 ?k3q3 (AllReadyH.cons (o:=?o8q3) ?e8q3 ?k8q3 AllReadyH.nil))
     case e3q3=>simp only [lg,lz,ls] <;> rfl
     case e8q3=>simp only [lg,lz,ls] <;> rfl
     case k3q3 =>
       intro K hK
       have y1_3:=hid (bS b2.out b3.out)
       have lb_sl:w1.heap.size≤w3.heap.size:=y1_3.out.size
       go_simp
       obtain ⟨w4,hw4⟩:=eX (w3.alloc (.cells #[.bool (decide (m.num<0)),.slice C1 (Vx.len m.num.natAbs) j1,.slice C2 (Vx.len (below m.den)) j2,.bool (decide (n.num<0)),.slice C3 (Vx.len n.num.natAbs) j3,.slice C4 (Vx.len (below n.den)) j4] 32))
       have b4:=hid (Ar hw4)
       have L4:=hid (At' hw4)
       rw [←hw4]
       clear hw4
       have y0_4:=hid (bS y0_3.out b4.out)
       have hS:=y0_4.out
       clear hHeld
       refine hK.out _ _ ?_ (fun hHeld=>?_)
       · (try dsimp only)
         exact ⟨hS.cell (p:=⟨P,0,none⟩) hPl,hS.cell (p:=⟨P,1,none⟩) hPl,hS.cell (p:=⟨P,2,none⟩) hPl,hS.cell (p:=⟨P,3,none⟩) hPl,hS.cell (p:=⟨P,4,none⟩) hPl,hS.cell (p:=⟨P,5,none⟩) hPl,hS.cell (p:=⟨P,6,none⟩) hPl,hS.cell (p:=⟨P,7,none⟩) hPl,hS.cell (p:=⟨P,8,none⟩) hPl⟩
       clear hK K hS;try simp only [Act.put,lt,ly,lu]
       refine wpAnyH_ready (rs:=[4,8]) (by kernel_rfl) (by simp) (AllReadyH.cons (o:=?o4q4) ?e4q4 ?k4q4 (AllReadyH.cons (o:=?o8q4) ?e8q4 ?k8q4 AllReadyH.nil))
       case e4q4=>simp only [lg,lz,ls] <;> rfl
       case e8q4=>simp only [lg,lz,ls] <;> rfl
       case k4q4 =>
         intro K hK
         have y2_4:=hid (bS b3.out b4.out)
         go_simp;go_at_call 36
         refine (BA (hp.out.keep y0_4.out) (BT L4.out (hv2.out.keep y2_4.out) (hv3.out.keep b4.out)) KP.out.1 (nT KQ.out.2.1 (by omega)) (nT KQ.out.2.2 (by omega)) ⟨nT KP.out.2.2 (by omega),hr0.out⟩ ⟨nT KP.out.2.1.1 (by omega),nT KP.out.2.1.2 (by omega)⟩ KQ.out.1.1 KQ.out.1.2).mono ?_
         rintro e w5 ⟨v5,rfl,hv5,b5⟩
         obtain ⟨C5,j5,C6,j6,C7,j7,C8,j8,rfl,-,-,-,-⟩:=id hv5.opened
         replace hv5:=hid hv5
         replace b5:=hid b5
         have y0_5:=hid (bS y0_4.out b5.out)
         have hS:=y0_5.out
         clear hHeld
         refine hK.out _ _ ?_ (fun hHeld=>?_)
         · (try dsimp only)
           exact ⟨hS.cell (p:=⟨P,0,none⟩) hPl,hS.cell (p:=⟨P,1,none⟩) hPl,hS.cell (p:=⟨P,2,none⟩) hPl,hS.cell (p:=⟨P,3,none⟩) hPl,hS.cell (p:=⟨P,4,none⟩) hPl,hS.cell (p:=⟨P,5,none⟩) hPl,hS.cell (p:=⟨P,6,none⟩) hPl,hS.cell (p:=⟨P,7,none⟩) hPl,hS.cell (p:=⟨P,8,none⟩) hPl⟩
         clear hK K hS;try simp only [Act.put,lt,ly,lu]
         refine tk (i:=5) (h:=?_)
         try simp only [Act.put,lt,ly,lu]
         refine tk (i:=6) (h:=?_)
         try simp only [Act.put,lt,ly,lu]
         refine tk (i:=7) (h:=?_)
         try simp only [Act.put,lt,ly,lu]
         refine rd (i:=8) (h:=fun K hK=>?_)
         have y1_5:=hid (bS (bS y1_3.out b4.out) b5.out)
         have lb_q:w1.heap.size≤w5.heap.size:=y1_5.out.size
         have lt_sl_q:w3.heap.size<w5.heap.size:=Af' (Ac' L4.out b5.out)
         go_simp
         obtain ⟨w6,hw6⟩:=eX (w5.alloc (.cells #[.bool false,.slice none 0 0,.slice none 0 0,.bool false,.slice none 0 0,.slice none 0 0] 34))
         have b6:=hid (Ar hw6)
         have L6:=hid (At' hw6)
         rw [←hw6]
         clear hw6
         have y0_6:=hid (bS y0_5.out b6.out)
         have hS:=y0_6.out
         clear hHeld
         refine hK.out _ _ ?_ (fun hHeld=>?_)
         · (try dsimp only)
           exact ⟨hS.cell (p:=⟨P,0,none⟩) hPl,hS.cell (p:=⟨P,1,none⟩) hPl,hS.cell (p:=⟨P,2,none⟩) hPl,hS.cell (p:=⟨P,3,none⟩) hPl,hS.cell (p:=⟨P,4,none⟩) hPl,hS.cell (p:=⟨P,5,none⟩) hPl,hS.cell (p:=⟨P,6,none⟩) hPl,hS.cell (p:=⟨P,7,none⟩) hPl,hS.cell (p:=⟨P,8,none⟩) hPl⟩
         clear hK K hS;try simp only [Act.put,lt,ly,lu]
         refine rd (i:=9) (h:=fun K hK=>?_)
         have DBq7:=Ac' L6.out (Below.refl _ w6)
         have q0:w6.cell? ⟨w5.heap.size,0,none⟩=some (.bool false):=cR _ _ _ _ _ _ DBq7
         have F0:w6.frozen? ⟨w5.heap.size,0,none⟩=false:=fR w6 (w5.heap.size) 0 _ _ DBq7
         have q1:w6.cell? ⟨w5.heap.size,1,none⟩=some (.slice none 0 0):=cR _ _ _ _ _ _ DBq7
         have F1:w6.frozen? ⟨w5.heap.size,1,none⟩=false:=fR w6 (w5.heap.size) 1 _ _ DBq7
         have q2:w6.cell? ⟨w5.heap.size,2,none⟩=some (.slice none 0 0):=cR _ _ _ _ _ _ DBq7
         have F2:w6.frozen? ⟨w5.heap.size,2,none⟩=false:=fR w6 (w5.heap.size) 2 _ _ DBq7
         have q3:w6.cell? ⟨w5.heap.size,3,none⟩=some (.bool false):=cR _ _ _ _ _ _ DBq7
         have F3:w6.frozen? ⟨w5.heap.size,3,none⟩=false:=fR w6 (w5.heap.size) 3 _ _ DBq7
         have q4:w6.cell? ⟨w5.heap.size,4,none⟩=some (.slice none 0 0):=cR _ _ _ _ _ _ DBq7
         have F4:w6.frozen? ⟨w5.heap.size,4,none⟩=false:=fR w6 (w5.heap.size) 4 _ _ DBq7
         have q5:w6.cell? ⟨w5.heap.size,5,none⟩=some (.slice none 0 0):=cR _ _ _ _ _ _ DBq7
         have F5:w6.frozen? ⟨w5.heap.size,5,none⟩=false:=fR w6 (w5.heap.size) 5 _ _ DBq7
         have hS:=y0_6.out
         have hz7:w.heap.size≤w6.heap.size:=hS.size
         go_simp
         clear q0 F0 q1 F1 q2 F2 q3 F3 q4 F4 q5 F5
         have FV:=hid (hv5.out.keep b6.out)
         have FB:=hid y0_6.out
         obtain ⟨w7,hw⟩:=eX (((((((w6.setCell ⟨w5.heap.size,0,none⟩ (.bool (decide (z.num<0)))).setCell ⟨w5.heap.size,1,none⟩ (.slice C5 (Vx.len z.num.natAbs) j5)).setCell ⟨w5.heap.size,2,none⟩ (.slice C6 (Vx.len (below z.den)) j6)).setCell ⟨w5.heap.size,3,none⟩ (.bool (decide (v.num<0)))).setCell ⟨w5.heap.size,4,none⟩ (.slice C7 (Vx.len v.num.natAbs) j7)).setCell ⟨w5.heap.size,5,none⟩ (.slice C8 (Vx.len (below v.den)) j8)))
         have hse7:w7.heap.size=w6.heap.size:=by rw [hw];simp
         obtain ⟨E,OT,LV,BL⟩:=Av DBq7 hw
         rw [←hw]
         clear hw
         have L7:=hid E
         have FB7:=hid (BL _ _ (by omega) FB.out)
         have HS7:=hid (BL _ _ (show w.heap.size≤w5.heap.size by omega) hS)
         have KVD7:=hid (LV.box (hv5.out.keep b6.out))
         have s0_7:w7.cell? ⟨P,0,none⟩=w.cell? ⟨P,0,none⟩:=(Aa' OT (by omega) (ltl hPl hz7)).trans (hS.cell (p:=⟨P,0,none⟩) hPl)
         have s1_7:w7.cell? ⟨P,1,none⟩=w.cell? ⟨P,1,none⟩:=(Aa' OT (by omega) (ltl hPl hz7)).trans (hS.cell (p:=⟨P,1,none⟩) hPl)
         have s2_7:w7.cell? ⟨P,2,none⟩=w.cell? ⟨P,2,none⟩:=(Aa' OT (by omega) (ltl hPl hz7)).trans (hS.cell (p:=⟨P,2,none⟩) hPl)
         have s3_7:w7.cell? ⟨P,3,none⟩=w.cell? ⟨P,3,none⟩:=(Aa' OT (by omega) (ltl hPl hz7)).trans (hS.cell (p:=⟨P,3,none⟩) hPl)
         have s4_7:w7.cell? ⟨P,4,none⟩=w.cell? ⟨P,4,none⟩:=(Aa' OT (by omega) (ltl hPl hz7)).trans (hS.cell (p:=⟨P,4,none⟩) hPl)
         have s5_7:w7.cell? ⟨P,5,none⟩=w.cell? ⟨P,5,none⟩:=(Aa' OT (by omega) (ltl hPl hz7)).trans (hS.cell (p:=⟨P,5,none⟩) hPl)
         have s6_7:w7.cell? ⟨P,6,none⟩=w.cell? ⟨P,6,none⟩:=(Aa' OT (by omega) (ltl hPl hz7)).trans (hS.cell (p:=⟨P,6,none⟩) hPl)
         have s7_7:w7.cell? ⟨P,7,none⟩=w.cell? ⟨P,7,none⟩:=(Aa' OT (by omega) (ltl hPl hz7)).trans (hS.cell (p:=⟨P,7,none⟩) hPl)
         have s8_7:w7.cell? ⟨P,8,none⟩=w.cell? ⟨P,8,none⟩:=(Aa' OT (by omega) (ltl hPl hz7)).trans (hS.cell (p:=⟨P,8,none⟩) hPl)
         refine hK.out _ _ ?_ (fun hHeld2=>?_)
         · (try dsimp only)
           exact ⟨s0_7,s1_7,s2_7,s3_7,s4_7,s5_7,s6_7,s7_7,s8_7⟩
         clear hK K hHeld hS OT LV BL FV FB E DBq7 s0_7 s1_7 s2_7 s3_7 s4_7 s5_7 s6_7 s7_7 s8_7
         try simp only [Act.put,lt,ly,lu]
         have hHeld:=hHeld2
         clear hHeld2
         refine tk (i:=10) (h:=?_)
         try simp only [Act.put,lt,ly,lu]
         refine wpAnyH_done (by kernel_rfl) ?_ _
         clear hHeld
         have FB:=hid FB7.out
         go_wp2_with fail
         refine hG.out _ _ ?_
         exact BA' (Ac' hP.out FB.out) (hp.out.keep FB.out) ea.out eb.out er.out ⟨(FB.out.cell (p:=⟨g,6,none⟩) hgl).trans f0,(FB.out.cell (p:=⟨g,7,none⟩) hgl).trans f1,(FB.out.cell (p:=⟨g,8,none⟩) hgl).trans f2,(FB.out.cell (p:=⟨g,9,none⟩) hgl).trans f3,(FB.out.cell (p:=⟨g,10,none⟩) hgl).trans f4,(FB.out.cell (p:=⟨g,11,none⟩) hgl).trans f5⟩ (hfb.out.keep FB.out) L7.out KVD7.out ex.out ey.out ez.out ev.out (Ar' hT.out FB.out) (fun w' h=>hPo.out w' (Ae' FB.out h))
       case k8q4 =>
         intro K hK
         have y1_4:=hid (bS y1_3.out b4.out)
         have lb_q:w1.heap.size≤w4.heap.size:=y1_4.out.size
         have lt_sl_q:w3.heap.size<w4.heap.size:=Af' L4.out
         go_simp
         obtain ⟨w5,hw5⟩:=eX (w4.alloc (.cells #[.bool false,.slice none 0 0,.slice none 0 0,.bool false,.slice none 0 0,.slice none 0 0] 34))
         have b5:=hid (Ar hw5)
         have L5:=hid (At' hw5)
         rw [←hw5]
         clear hw5
         have y0_5:=hid (bS y0_4.out b5.out)
         have hS:=y0_5.out
         clear hHeld
         refine hK.out _ _ ?_ (fun hHeld=>?_)
         · (try dsimp only)
           exact ⟨hS.cell (p:=⟨P,0,none⟩) hPl,hS.cell (p:=⟨P,1,none⟩) hPl,hS.cell (p:=⟨P,2,none⟩) hPl,hS.cell (p:=⟨P,3,none⟩) hPl,hS.cell (p:=⟨P,4,none⟩) hPl,hS.cell (p:=⟨P,5,none⟩) hPl,hS.cell (p:=⟨P,6,none⟩) hPl,hS.cell (p:=⟨P,7,none⟩) hPl,hS.cell (p:=⟨P,8,none⟩) hPl⟩
         clear hK K hS;try simp only [Act.put,lt,ly,lu]
         refine rd (i:=4) (h:=fun K hK=>?_)
         have y2_5:=hid (bS (bS b3.out b4.out) b5.out)
         have y3_5:=hid (bS b4.out b5.out)
         go_simp;go_at_call 36
         refine (BA (hp.out.keep y0_5.out) (BT (Ac' L4.out b5.out) (hv2.out.keep y2_5.out) (hv3.out.keep y3_5.out)) KP.out.1 (nT KQ.out.2.1 (by omega)) (nT KQ.out.2.2 (by omega)) ⟨nT KP.out.2.2 (by omega),hr0.out⟩ ⟨nT KP.out.2.1.1 (by omega),nT KP.out.2.1.2 (by omega)⟩ KQ.out.1.1 KQ.out.1.2).mono ?_
         rintro e w6 ⟨v6,rfl,hv6,b6⟩
         obtain ⟨C9,j9,C10,j10,C11,j11,C12,j12,rfl,-,-,-,-⟩:=id hv6.opened
         replace hv6:=hid hv6
         replace b6:=hid b6
         have y0_6:=hid (bS y0_5.out b6.out)
         have hS:=y0_6.out
         clear hHeld
         refine hK.out _ _ ?_ (fun hHeld=>?_)
         · (try dsimp only)
           exact ⟨hS.cell (p:=⟨P,0,none⟩) hPl,hS.cell (p:=⟨P,1,none⟩) hPl,hS.cell (p:=⟨P,2,none⟩) hPl,hS.cell (p:=⟨P,3,none⟩) hPl,hS.cell (p:=⟨P,4,none⟩) hPl,hS.cell (p:=⟨P,5,none⟩) hPl,hS.cell (p:=⟨P,6,none⟩) hPl,hS.cell (p:=⟨P,7,none⟩) hPl,hS.cell (p:=⟨P,8,none⟩) hPl⟩
         clear hK K hS;try simp only [Act.put,lt,ly,lu]
         refine tk (i:=5) (h:=?_)
         try simp only [Act.put,lt,ly,lu]
         refine tk (i:=6) (h:=?_)
         try simp only [Act.put,lt,ly,lu]
         refine tk (i:=7) (h:=?_)
         try simp only [Act.put,lt,ly,lu]
         refine rd (i:=9) (h:=fun K hK=>?_)
         have DBq10:=Ac' L5.out b6.out
         have q0:w6.cell? ⟨w4.heap.size,0,none⟩=some (.bool false):=cR _ _ _ _ _ _ DBq10
         have F0:w6.frozen? ⟨w4.heap.size,0,none⟩=false:=fR w6 (w4.heap.size) 0 _ _ DBq10
         have q1:w6.cell? ⟨w4.heap.size,1,none⟩=some (.slice none 0 0):=cR _ _ _ _ _ _ DBq10
         have F1:w6.frozen? ⟨w4.heap.size,1,none⟩=false:=fR w6 (w4.heap.size) 1 _ _ DBq10
         have q2:w6.cell? ⟨w4.heap.size,2,none⟩=some (.slice none 0 0):=cR _ _ _ _ _ _ DBq10
         have F2:w6.frozen? ⟨w4.heap.size,2,none⟩=false:=fR w6 (w4.heap.size) 2 _ _ DBq10
         have q3:w6.cell? ⟨w4.heap.size,3,none⟩=some (.bool false):=cR _ _ _ _ _ _ DBq10
         have F3:w6.frozen? ⟨w4.heap.size,3,none⟩=false:=fR w6 (w4.heap.size) 3 _ _ DBq10
         have q4:w6.cell? ⟨w4.heap.size,4,none⟩=some (.slice none 0 0):=cR _ _ _ _ _ _ DBq10
         have F4:w6.frozen? ⟨w4.heap.size,4,none⟩=false:=fR w6 (w4.heap.size) 4 _ _ DBq10
         have q5:w6.cell? ⟨w4.heap.size,5,none⟩=some (.slice none 0 0):=cR _ _ _ _ _ _ DBq10
         have F5:w6.frozen? ⟨w4.heap.size,5,none⟩=false:=fR w6 (w4.heap.size) 5 _ _ DBq10
         have hS:=y0_6.out
         have hz7:w.heap.size≤w6.heap.size:=hS.size
         go_simp
         clear q0 F0 q1 F1 q2 F2 q3 F3 q4 F4 q5 F5
         have FV:=hid hv6.out
         have FB:=hid y0_6.out
         obtain ⟨w7,hw⟩:=eX (((((((w6.setCell ⟨w4.heap.size,0,none⟩ (.bool (decide (z.num<0)))).setCell ⟨w4.heap.size,1,none⟩ (.slice C9 (Vx.len z.num.natAbs) j9)).setCell ⟨w4.heap.size,2,none⟩ (.slice C10 (Vx.len (below z.den)) j10)).setCell ⟨w4.heap.size,3,none⟩ (.bool (decide (v.num<0)))).setCell ⟨w4.heap.size,4,none⟩ (.slice C11 (Vx.len v.num.natAbs) j11)).setCell ⟨w4.heap.size,5,none⟩ (.slice C12 (Vx.len (below v.den)) j12)))
         have hse7:w7.heap.size=w6.heap.size:=by rw [hw];simp
         obtain ⟨E,OT,LV,BL⟩:=Av DBq10 hw
         rw [←hw]
         clear hw
         have L7:=hid E
         have FB7:=hid (BL _ _ (by omega) FB.out)
         have HS7:=hid (BL _ _ (show w.heap.size≤w4.heap.size by omega) hS)
         have KVD7:=hid (LV.box hv6.out)
         have s0_7:w7.cell? ⟨P,0,none⟩=w.cell? ⟨P,0,none⟩:=(Aa' OT (by omega) (ltl hPl hz7)).trans (hS.cell (p:=⟨P,0,none⟩) hPl)
         have s1_7:w7.cell? ⟨P,1,none⟩=w.cell? ⟨P,1,none⟩:=(Aa' OT (by omega) (ltl hPl hz7)).trans (hS.cell (p:=⟨P,1,none⟩) hPl)
         have s2_7:w7.cell? ⟨P,2,none⟩=w.cell? ⟨P,2,none⟩:=(Aa' OT (by omega) (ltl hPl hz7)).trans (hS.cell (p:=⟨P,2,none⟩) hPl)
         have s3_7:w7.cell? ⟨P,3,none⟩=w.cell? ⟨P,3,none⟩:=(Aa' OT (by omega) (ltl hPl hz7)).trans (hS.cell (p:=⟨P,3,none⟩) hPl)
         have s4_7:w7.cell? ⟨P,4,none⟩=w.cell? ⟨P,4,none⟩:=(Aa' OT (by omega) (ltl hPl hz7)).trans (hS.cell (p:=⟨P,4,none⟩) hPl)
         have s5_7:w7.cell? ⟨P,5,none⟩=w.cell? ⟨P,5,none⟩:=(Aa' OT (by omega) (ltl hPl hz7)).trans (hS.cell (p:=⟨P,5,none⟩) hPl)
         have s6_7:w7.cell? ⟨P,6,none⟩=w.cell? ⟨P,6,none⟩:=(Aa' OT (by omega) (ltl hPl hz7)).trans (hS.cell (p:=⟨P,6,none⟩) hPl)
         have s7_7:w7.cell? ⟨P,7,none⟩=w.cell? ⟨P,7,none⟩:=(Aa' OT (by omega) (ltl hPl hz7)).trans (hS.cell (p:=⟨P,7,none⟩) hPl)
         have s8_7:w7.cell? ⟨P,8,none⟩=w.cell? ⟨P,8,none⟩:=(Aa' OT (by omega) (ltl hPl hz7)).trans (hS.cell (p:=⟨P,8,none⟩) hPl)
         refine hK.out _ _ ?_ (fun hHeld2=>?_)
         · (try dsimp only)
           exact ⟨s0_7,s1_7,s2_7,s3_7,s4_7,s5_7,s6_7,s7_7,s8_7⟩
         clear hK K hHeld hS OT LV BL FV FB E DBq10 s0_7 s1_7 s2_7 s3_7 s4_7 s5_7 s6_7 s7_7 s8_7
         try simp only [Act.put,lt,ly,lu]
         have hHeld:=hHeld2
         clear hHeld2
         refine tk (i:=10) (h:=?_)
         try simp only [Act.put,lt,ly,lu]
         refine wpAnyH_done (by kernel_rfl) ?_ _
         clear hHeld
         have FB:=hid FB7.out
         go_wp2_with fail
         refine hG.out _ _ ?_
         exact BA' (Ac' hP.out FB.out) (hp.out.keep FB.out) ea.out eb.out er.out ⟨(FB.out.cell (p:=⟨g,6,none⟩) hgl).trans f0,(FB.out.cell (p:=⟨g,7,none⟩) hgl).trans f1,(FB.out.cell (p:=⟨g,8,none⟩) hgl).trans f2,(FB.out.cell (p:=⟨g,9,none⟩) hgl).trans f3,(FB.out.cell (p:=⟨g,10,none⟩) hgl).trans f4,(FB.out.cell (p:=⟨g,11,none⟩) hgl).trans f5⟩ (hfb.out.keep FB.out) L7.out KVD7.out ex.out ey.out ez.out ev.out (Ar' hT.out FB.out) (fun w' h=>hPo.out w' (Ae' FB.out h))
     case k8q3 =>
       intro K hK
       have y1_3:=hid (bS b2.out b3.out)
       have lb_q:w1.heap.size≤w3.heap.size:=y1_3.out.size
       go_simp
       obtain ⟨w4,hw4⟩:=eX (w3.alloc (.cells #[.bool false,.slice none 0 0,.slice none 0 0,.bool false,.slice none 0 0,.slice none 0 0] 34))
       have b4:=hid (Ar hw4)
       have L4:=hid (At' hw4)
       rw [←hw4]
       clear hw4
       have y0_4:=hid (bS y0_3.out b4.out)
       have hS:=y0_4.out
       clear hHeld
       refine hK.out _ _ ?_ (fun hHeld=>?_)
       · (try dsimp only)
         exact ⟨hS.cell (p:=⟨P,0,none⟩) hPl,hS.cell (p:=⟨P,1,none⟩) hPl,hS.cell (p:=⟨P,2,none⟩) hPl,hS.cell (p:=⟨P,3,none⟩) hPl,hS.cell (p:=⟨P,4,none⟩) hPl,hS.cell (p:=⟨P,5,none⟩) hPl,hS.cell (p:=⟨P,6,none⟩) hPl,hS.cell (p:=⟨P,7,none⟩) hPl,hS.cell (p:=⟨P,8,none⟩) hPl⟩
       clear hK K hS;try simp only [Act.put,lt,ly,lu]
       refine rd (i:=3) (h:=fun K hK=>?_)
       have y1_4:=hid (bS y1_3.out b4.out)
       have lb_sl:w1.heap.size≤w4.heap.size:=y1_4.out.size
       have lt_q_sl:w3.heap.size<w4.heap.size:=Af' L4.out
       go_simp
       obtain ⟨w5,hw5⟩:=eX (w4.alloc (.cells #[.bool (decide (m.num<0)),.slice C1 (Vx.len m.num.natAbs) j1,.slice C2 (Vx.len (below m.den)) j2,.bool (decide (n.num<0)),.slice C3 (Vx.len n.num.natAbs) j3,.slice C4 (Vx.len (below n.den)) j4] 32))
       have b5:=hid (Ar hw5)
       have L5:=hid (At' hw5)
       rw [←hw5]
       clear hw5
       have y0_5:=hid (bS y0_4.out b5.out)
       have hS:=y0_5.out
       clear hHeld
       refine hK.out _ _ ?_ (fun hHeld=>?_)
       · (try dsimp only)
         exact ⟨hS.cell (p:=⟨P,0,none⟩) hPl,hS.cell (p:=⟨P,1,none⟩) hPl,hS.cell (p:=⟨P,2,none⟩) hPl,hS.cell (p:=⟨P,3,none⟩) hPl,hS.cell (p:=⟨P,4,none⟩) hPl,hS.cell (p:=⟨P,5,none⟩) hPl,hS.cell (p:=⟨P,6,none⟩) hPl,hS.cell (p:=⟨P,7,none⟩) hPl,hS.cell (p:=⟨P,8,none⟩) hPl⟩
       clear hK K hS;try simp only [Act.put,lt,ly,lu]
       refine rd (i:=4) (h:=fun K hK=>?_)
       have y2_5:=hid (bS (bS b3.out b4.out) b5.out)
       have y3_5:=hid (bS b4.out b5.out)
       go_simp;go_at_call 36
       refine (BA (hp.out.keep y0_5.out) (BT L5.out (hv2.out.keep y2_5.out) (hv3.out.keep y3_5.out)) KP.out.1 (nT KQ.out.2.1 (by omega)) (nT KQ.out.2.2 (by omega)) ⟨nT KP.out.2.2 (by omega),hr0.out⟩ ⟨nT KP.out.2.1.1 (by omega),nT KP.out.2.1.2 (by omega)⟩ KQ.out.1.1 KQ.out.1.2).mono ?_
       rintro e w6 ⟨v6,rfl,hv6,b6⟩
       obtain ⟨C13,j13,C14,j14,C15,j15,C16,j16,rfl,-,-,-,-⟩:=id hv6.opened
       replace hv6:=hid hv6
       replace b6:=hid b6
       have y0_6:=hid (bS y0_5.out b6.out)
       have hS:=y0_6.out
       clear hHeld
       refine hK.out _ _ ?_ (fun hHeld=>?_)
       · (try dsimp only)
         exact ⟨hS.cell (p:=⟨P,0,none⟩) hPl,hS.cell (p:=⟨P,1,none⟩) hPl,hS.cell (p:=⟨P,2,none⟩) hPl,hS.cell (p:=⟨P,3,none⟩) hPl,hS.cell (p:=⟨P,4,none⟩) hPl,hS.cell (p:=⟨P,5,none⟩) hPl,hS.cell (p:=⟨P,6,none⟩) hPl,hS.cell (p:=⟨P,7,none⟩) hPl,hS.cell (p:=⟨P,8,none⟩) hPl⟩
       clear hK K hS;try simp only [Act.put,lt,ly,lu]
       refine tk (i:=5) (h:=?_)
       try simp only [Act.put,lt,ly,lu]
       refine tk (i:=6) (h:=?_)
       try simp only [Act.put,lt,ly,lu]
       refine tk (i:=7) (h:=?_)
       try simp only [Act.put,lt,ly,lu]
       refine rd (i:=9) (h:=fun K hK=>?_)
       have y4_6:=hid (bS b5.out b6.out)
       have DBq14:=Ac' L4.out y4_6.out
       have q0:w6.cell? ⟨w3.heap.size,0,none⟩=some (.bool false):=cR _ _ _ _ _ _ DBq14
       have F0:w6.frozen? ⟨w3.heap.size,0,none⟩=false:=fR w6 (w3.heap.size) 0 _ _ DBq14
       have q1:w6.cell? ⟨w3.heap.size,1,none⟩=some (.slice none 0 0):=cR _ _ _ _ _ _ DBq14
       have F1:w6.frozen? ⟨w3.heap.size,1,none⟩=false:=fR w6 (w3.heap.size) 1 _ _ DBq14
       have q2:w6.cell? ⟨w3.heap.size,2,none⟩=some (.slice none 0 0):=cR _ _ _ _ _ _ DBq14
       have F2:w6.frozen? ⟨w3.heap.size,2,none⟩=false:=fR w6 (w3.heap.size) 2 _ _ DBq14
       have q3:w6.cell? ⟨w3.heap.size,3,none⟩=some (.bool false):=cR _ _ _ _ _ _ DBq14
       have F3:w6.frozen? ⟨w3.heap.size,3,none⟩=false:=fR w6 (w3.heap.size) 3 _ _ DBq14
       have q4:w6.cell? ⟨w3.heap.size,4,none⟩=some (.slice none 0 0):=cR _ _ _ _ _ _ DBq14
       have F4:w6.frozen? ⟨w3.heap.size,4,none⟩=false:=fR w6 (w3.heap.size) 4 _ _ DBq14
       have q5:w6.cell? ⟨w3.heap.size,5,none⟩=some (.slice none 0 0):=cR _ _ _ _ _ _ DBq14
       have F5:w6.frozen? ⟨w3.heap.size,5,none⟩=false:=fR w6 (w3.heap.size) 5 _ _ DBq14
       have hS:=y0_6.out
       have hz7:w.heap.size≤w6.heap.size:=hS.size
       go_simp
       clear q0 F0 q1 F1 q2 F2 q3 F3 q4 F4 q5 F5
       have FV:=hid hv6.out
       have FB:=hid y0_6.out
       obtain ⟨w7,hw⟩:=eX (((((((w6.setCell ⟨w3.heap.size,0,none⟩ (.bool (decide (z.num<0)))).setCell ⟨w3.heap.size,1,none⟩ (.slice C13 (Vx.len z.num.natAbs) j13)).setCell ⟨w3.heap.size,2,none⟩ (.slice C14 (Vx.len (below z.den)) j14)).setCell ⟨w3.heap.size,3,none⟩ (.bool (decide (v.num<0)))).setCell ⟨w3.heap.size,4,none⟩ (.slice C15 (Vx.len v.num.natAbs) j15)).setCell ⟨w3.heap.size,5,none⟩ (.slice C16 (Vx.len (below v.den)) j16)))
       have hse7:w7.heap.size=w6.heap.size:=by rw [hw];simp
       obtain ⟨E,OT,LV,BL⟩:=Av DBq14 hw
       rw [←hw]
       clear hw
       have L7:=hid E
       have FB7:=hid (BL _ _ (by omega) FB.out)
       have HS7:=hid (BL _ _ (show w.heap.size≤w3.heap.size by omega) hS)
       have KVD7:=hid (LV.box hv6.out)
       have s0_7:w7.cell? ⟨P,0,none⟩=w.cell? ⟨P,0,none⟩:=(Aa' OT (by omega) (ltl hPl hz7)).trans (hS.cell (p:=⟨P,0,none⟩) hPl)
       have s1_7:w7.cell? ⟨P,1,none⟩=w.cell? ⟨P,1,none⟩:=(Aa' OT (by omega) (ltl hPl hz7)).trans (hS.cell (p:=⟨P,1,none⟩) hPl)
       have s2_7:w7.cell? ⟨P,2,none⟩=w.cell? ⟨P,2,none⟩:=(Aa' OT (by omega) (ltl hPl hz7)).trans (hS.cell (p:=⟨P,2,none⟩) hPl)
       have s3_7:w7.cell? ⟨P,3,none⟩=w.cell? ⟨P,3,none⟩:=(Aa' OT (by omega) (ltl hPl hz7)).trans (hS.cell (p:=⟨P,3,none⟩) hPl)
       have s4_7:w7.cell? ⟨P,4,none⟩=w.cell? ⟨P,4,none⟩:=(Aa' OT (by omega) (ltl hPl hz7)).trans (hS.cell (p:=⟨P,4,none⟩) hPl)
       have s5_7:w7.cell? ⟨P,5,none⟩=w.cell? ⟨P,5,none⟩:=(Aa' OT (by omega) (ltl hPl hz7)).trans (hS.cell (p:=⟨P,5,none⟩) hPl)
       have s6_7:w7.cell? ⟨P,6,none⟩=w.cell? ⟨P,6,none⟩:=(Aa' OT (by omega) (ltl hPl hz7)).trans (hS.cell (p:=⟨P,6,none⟩) hPl)
       have s7_7:w7.cell? ⟨P,7,none⟩=w.cell? ⟨P,7,none⟩:=(Aa' OT (by omega) (ltl hPl hz7)).trans (hS.cell (p:=⟨P,7,none⟩) hPl)
       have s8_7:w7.cell? ⟨P,8,none⟩=w.cell? ⟨P,8,none⟩:=(Aa' OT (by omega) (ltl hPl hz7)).trans (hS.cell (p:=⟨P,8,none⟩) hPl)
       refine hK.out _ _ ?_ (fun hHeld2=>?_)
       · (try dsimp only)
         exact ⟨s0_7,s1_7,s2_7,s3_7,s4_7,s5_7,s6_7,s7_7,s8_7⟩
       clear hK K hHeld hS OT LV BL FV FB E DBq14 s0_7 s1_7 s2_7 s3_7 s4_7 s5_7 s6_7 s7_7 s8_7
       try simp only [Act.put,lt,ly,lu]
       have hHeld:=hHeld2
       clear hHeld2
       refine tk (i:=10) (h:=?_)
       try simp only [Act.put,lt,ly,lu]
       refine wpAnyH_done (by kernel_rfl) ?_ _
       clear hHeld
       have FB:=hid FB7.out
       go_wp2_with fail
       refine hG.out _ _ ?_
       exact BA' (Ac' hP.out FB.out) (hp.out.keep FB.out) ea.out eb.out er.out ⟨(FB.out.cell (p:=⟨g,6,none⟩) hgl).trans f0,(FB.out.cell (p:=⟨g,7,none⟩) hgl).trans f1,(FB.out.cell (p:=⟨g,8,none⟩) hgl).trans f2,(FB.out.cell (p:=⟨g,9,none⟩) hgl).trans f3,(FB.out.cell (p:=⟨g,10,none⟩) hgl).trans f4,(FB.out.cell (p:=⟨g,11,none⟩) hgl).trans f5⟩ (hfb.out.keep FB.out) L7.out KVD7.out ex.out ey.out ez.out ev.out (Ar' hT.out FB.out) (fun w' h=>hPo.out w' (Ae' FB.out h))
   case k8q2 =>
     intro K hK
     have lb_q:w1.heap.size≤w2.heap.size:=b2.out.size
     go_simp
     obtain ⟨w3,hw3⟩:=eX (w2.alloc (.cells #[.bool false,.slice none 0 0,.slice none 0 0,.bool false,.slice none 0 0,.slice none 0 0] 34))
     have b3:=hid (Ar hw3)
     have L3:=hid (At' hw3)
     rw [←hw3]
     clear hw3
     have y0_3:=hid (bS y0_2.out b3.out)
     have hS:=y0_3.out
     clear hHeld
     refine hK.out _ _ ?_ (fun hHeld=>?_)
     · (try dsimp only)
       exact ⟨hS.cell (p:=⟨P,0,none⟩) hPl,hS.cell (p:=⟨P,1,none⟩) hPl,hS.cell (p:=⟨P,2,none⟩) hPl,hS.cell (p:=⟨P,3,none⟩) hPl,hS.cell (p:=⟨P,4,none⟩) hPl,hS.cell (p:=⟨P,5,none⟩) hPl,hS.cell (p:=⟨P,6,none⟩) hPl,hS.cell (p:=⟨P,7,none⟩) hPl,hS.cell (p:=⟨P,8,none⟩) hPl⟩
     clear hK K hS;try simp only [Act.put,lt,ly,lu]
     refine rd (i:=2) (h:=fun K hK=>?_)
     go_simp;go_at_call 25
     refine (Ay' (w:=w3) en.out (by omega) (by omega)).mono ?_
     rintro e w4 ⟨v4,rfl,hv4,b4⟩
     obtain ⟨C17,j17,C18,j18,rfl,-,-⟩:=id hv4.opened
     replace hv4:=hid hv4
     replace b4:=hid b4
     have y0_4:=hid (bS y0_3.out b4.out)
     have hS:=y0_4.out
     clear hHeld
     refine hK.out _ _ ?_ (fun hHeld=>?_)
     · (try dsimp only)
       exact ⟨hS.cell (p:=⟨P,0,none⟩) hPl,hS.cell (p:=⟨P,1,none⟩) hPl,hS.cell (p:=⟨P,2,none⟩) hPl,hS.cell (p:=⟨P,3,none⟩) hPl,hS.cell (p:=⟨P,4,none⟩) hPl,hS.cell (p:=⟨P,5,none⟩) hPl,hS.cell (p:=⟨P,6,none⟩) hPl,hS.cell (p:=⟨P,7,none⟩) hPl,hS.cell (p:=⟨P,8,none⟩) hPl⟩
     clear hK K hS;try simp only [Act.put,lt,ly,lu]
     refine rd (i:=3) (h:=fun K hK=>?_)
     have y1_4:=hid (bS (bS b2.out b3.out) b4.out)
     have lb_sl:w1.heap.size≤w4.heap.size:=y1_4.out.size
     have lt_q_sl:w2.heap.size<w4.heap.size:=Af' (Ac' L3.out b4.out)
     go_simp
     obtain ⟨w5,hw5⟩:=eX (w4.alloc (.cells #[.bool (decide (m.num<0)),.slice C1 (Vx.len m.num.natAbs) j1,.slice C2 (Vx.len (below m.den)) j2,.bool (decide (n.num<0)),.slice C17 (Vx.len n.num.natAbs) j17,.slice C18 (Vx.len (below n.den)) j18] 32))
     have b5:=hid (Ar hw5)
     have L5:=hid (At' hw5)
     rw [←hw5]
     clear hw5
     have y0_5:=hid (bS y0_4.out b5.out)
     have hS:=y0_5.out
     clear hHeld
     refine hK.out _ _ ?_ (fun hHeld=>?_)
     · (try dsimp only)
       exact ⟨hS.cell (p:=⟨P,0,none⟩) hPl,hS.cell (p:=⟨P,1,none⟩) hPl,hS.cell (p:=⟨P,2,none⟩) hPl,hS.cell (p:=⟨P,3,none⟩) hPl,hS.cell (p:=⟨P,4,none⟩) hPl,hS.cell (p:=⟨P,5,none⟩) hPl,hS.cell (p:=⟨P,6,none⟩) hPl,hS.cell (p:=⟨P,7,none⟩) hPl,hS.cell (p:=⟨P,8,none⟩) hPl⟩
     clear hK K hS;try simp only [Act.put,lt,ly,lu]
     refine rd (i:=4) (h:=fun K hK=>?_)
     have y2_5:=hid (bS (bS b3.out b4.out) b5.out)
     go_simp;go_at_call 36
     refine (BA (hp.out.keep y0_5.out) (BT L5.out (hv2.out.keep y2_5.out) (hv4.out.keep b5.out)) KP.out.1 (nT KQ.out.2.1 (by omega)) (nT KQ.out.2.2 (by omega)) ⟨nT KP.out.2.2 (by omega),hr0.out⟩ ⟨nT KP.out.2.1.1 (by omega),nT KP.out.2.1.2 (by omega)⟩ KQ.out.1.1 KQ.out.1.2).mono ?_
     rintro e w6 ⟨v6,rfl,hv6,b6⟩
     obtain ⟨C19,j19,C20,j20,C21,j21,C22,j22,rfl,-,-,-,-⟩:=id hv6.opened
     replace hv6:=hid hv6
     replace b6:=hid b6
     have y0_6:=hid (bS y0_5.out b6.out)
     have hS:=y0_6.out
     clear hHeld
     refine hK.out _ _ ?_ (fun hHeld=>?_)
     · (try dsimp only)
       exact ⟨hS.cell (p:=⟨P,0,none⟩) hPl,hS.cell (p:=⟨P,1,none⟩) hPl,hS.cell (p:=⟨P,2,none⟩) hPl,hS.cell (p:=⟨P,3,none⟩) hPl,hS.cell (p:=⟨P,4,none⟩) hPl,hS.cell (p:=⟨P,5,none⟩) hPl,hS.cell (p:=⟨P,6,none⟩) hPl,hS.cell (p:=⟨P,7,none⟩) hPl,hS.cell (p:=⟨P,8,none⟩) hPl⟩
     clear hK K hS;try simp only [Act.put,lt,ly,lu]
     refine tk (i:=5) (h:=?_)
     try simp only [Act.put,lt,ly,lu]
     refine tk (i:=6) (h:=?_)
     try simp only [Act.put,lt,ly,lu]
     refine tk (i:=7) (h:=?_)
     try simp only [Act.put,lt,ly,lu]
     refine rd (i:=9) (h:=fun K hK=>?_)
     have y3_6:=hid (bS (bS b4.out b5.out) b6.out)
     have DBq19:=Ac' L3.out y3_6.out
     have q0:w6.cell? ⟨w2.heap.size,0,none⟩=some (.bool false):=cR _ _ _ _ _ _ DBq19
     have F0:w6.frozen? ⟨w2.heap.size,0,none⟩=false:=fR w6 (w2.heap.size) 0 _ _ DBq19
     have q1:w6.cell? ⟨w2.heap.size,1,none⟩=some (.slice none 0 0):=cR _ _ _ _ _ _ DBq19
     have F1:w6.frozen? ⟨w2.heap.size,1,none⟩=false:=fR w6 (w2.heap.size) 1 _ _ DBq19
     have q2:w6.cell? ⟨w2.heap.size,2,none⟩=some (.slice none 0 0):=cR _ _ _ _ _ _ DBq19
     have F2:w6.frozen? ⟨w2.heap.size,2,none⟩=false:=fR w6 (w2.heap.size) 2 _ _ DBq19
     have q3:w6.cell? ⟨w2.heap.size,3,none⟩=some (.bool false):=cR _ _ _ _ _ _ DBq19
     have F3:w6.frozen? ⟨w2.heap.size,3,none⟩=false:=fR w6 (w2.heap.size) 3 _ _ DBq19
     have q4:w6.cell? ⟨w2.heap.size,4,none⟩=some (.slice none 0 0):=cR _ _ _ _ _ _ DBq19
     have F4:w6.frozen? ⟨w2.heap.size,4,none⟩=false:=fR w6 (w2.heap.size) 4 _ _ DBq19
     have q5:w6.cell? ⟨w2.heap.size,5,none⟩=some (.slice none 0 0):=cR _ _ _ _ _ _ DBq19
     have F5:w6.frozen? ⟨w2.heap.size,5,none⟩=false:=fR w6 (w2.heap.size) 5 _ _ DBq19
     have hS:=y0_6.out
     have hz7:w.heap.size≤w6.heap.size:=hS.size
     go_simp
     clear q0 F0 q1 F1 q2 F2 q3 F3 q4 F4 q5 F5
     have FV:=hid hv6.out
     have FB:=hid y0_6.out
     obtain ⟨w7,hw⟩:=eX (((((((w6.setCell ⟨w2.heap.size,0,none⟩ (.bool (decide (z.num<0)))).setCell ⟨w2.heap.size,1,none⟩ (.slice C19 (Vx.len z.num.natAbs) j19)).setCell ⟨w2.heap.size,2,none⟩ (.slice C20 (Vx.len (below z.den)) j20)).setCell ⟨w2.heap.size,3,none⟩ (.bool (decide (v.num<0)))).setCell ⟨w2.heap.size,4,none⟩ (.slice C21 (Vx.len v.num.natAbs) j21)).setCell ⟨w2.heap.size,5,none⟩ (.slice C22 (Vx.len (below v.den)) j22)))
     have hse7:w7.heap.size=w6.heap.size:=by rw [hw];simp
     obtain ⟨E,OT,LV,BL⟩:=Av DBq19 hw
     rw [←hw]
     clear hw
     have L7:=hid E
     have FB7:=hid (BL _ _ (by omega) FB.out)
     have HS7:=hid (BL _ _ (show w.heap.size≤w2.heap.size by omega) hS)
     have KVD7:=hid (LV.box hv6.out)
     have s0_7:w7.cell? ⟨P,0,none⟩=w.cell? ⟨P,0,none⟩:=(Aa' OT (by omega) (ltl hPl hz7)).trans (hS.cell (p:=⟨P,0,none⟩) hPl)
     have s1_7:w7.cell? ⟨P,1,none⟩=w.cell? ⟨P,1,none⟩:=(Aa' OT (by omega) (ltl hPl hz7)).trans (hS.cell (p:=⟨P,1,none⟩) hPl)
     have s2_7:w7.cell? ⟨P,2,none⟩=w.cell? ⟨P,2,none⟩:=(Aa' OT (by omega) (ltl hPl hz7)).trans (hS.cell (p:=⟨P,2,none⟩) hPl)
     have s3_7:w7.cell? ⟨P,3,none⟩=w.cell? ⟨P,3,none⟩:=(Aa' OT (by omega) (ltl hPl hz7)).trans (hS.cell (p:=⟨P,3,none⟩) hPl)
     have s4_7:w7.cell? ⟨P,4,none⟩=w.cell? ⟨P,4,none⟩:=(Aa' OT (by omega) (ltl hPl hz7)).trans (hS.cell (p:=⟨P,4,none⟩) hPl)
     have s5_7:w7.cell? ⟨P,5,none⟩=w.cell? ⟨P,5,none⟩:=(Aa' OT (by omega) (ltl hPl hz7)).trans (hS.cell (p:=⟨P,5,none⟩) hPl)
     have s6_7:w7.cell? ⟨P,6,none⟩=w.cell? ⟨P,6,none⟩:=(Aa' OT (by omega) (ltl hPl hz7)).trans (hS.cell (p:=⟨P,6,none⟩) hPl)
     have s7_7:w7.cell? ⟨P,7,none⟩=w.cell? ⟨P,7,none⟩:=(Aa' OT (by omega) (ltl hPl hz7)).trans (hS.cell (p:=⟨P,7,none⟩) hPl)
     have s8_7:w7.cell? ⟨P,8,none⟩=w.cell? ⟨P,8,none⟩:=(Aa' OT (by omega) (ltl hPl hz7)).trans (hS.cell (p:=⟨P,8,none⟩) hPl)
     refine hK.out _ _ ?_ (fun hHeld2=>?_)
     · (try dsimp only)
       exact ⟨s0_7,s1_7,s2_7,s3_7,s4_7,s5_7,s6_7,s7_7,s8_7⟩
     clear hK K hHeld hS OT LV BL FV FB E DBq19 s0_7 s1_7 s2_7 s3_7 s4_7 s5_7 s6_7 s7_7 s8_7
     try simp only [Act.put,lt,ly,lu]
     have hHeld:=hHeld2
     clear hHeld2
     refine tk (i:=10) (h:=?_)
     try simp only [Act.put,lt,ly,lu]
     refine wpAnyH_done (by kernel_rfl) ?_ _
     clear hHeld
     have FB:=hid FB7.out
     go_wp2_with fail
     refine hG.out _ _ ?_
     exact BA' (Ac' hP.out FB.out) (hp.out.keep FB.out) ea.out eb.out er.out ⟨(FB.out.cell (p:=⟨g,6,none⟩) hgl).trans f0,(FB.out.cell (p:=⟨g,7,none⟩) hgl).trans f1,(FB.out.cell (p:=⟨g,8,none⟩) hgl).trans f2,(FB.out.cell (p:=⟨g,9,none⟩) hgl).trans f3,(FB.out.cell (p:=⟨g,10,none⟩) hgl).trans f4,(FB.out.cell (p:=⟨g,11,none⟩) hgl).trans f5⟩ (hfb.out.keep FB.out) L7.out KVD7.out ex.out ey.out ez.out ev.out (Ar' hT.out FB.out) (fun w' h=>hPo.out w' (Ae' FB.out h))
 case k8q1 =>
   intro K hK
   have lb_q:w1.heap.size≤w1.heap.size:=nL _
   go_simp
   obtain ⟨w2,hw2⟩:=eX (w1.alloc (.cells #[.bool false,.slice none 0 0,.slice none 0 0,.bool false,.slice none 0 0,.slice none 0 0] 34))
   have b2:=hid (Ar hw2)
   have L2:=hid (At' hw2)
   rw [←hw2]
   clear hw2
   have y0_2:=hid (bS b1.out b2.out)
   have hS:=y0_2.out
   clear hHeld
   refine hK.out _ _ ?_ (fun hHeld=>?_)
   · (try dsimp only)
     exact ⟨hS.cell (p:=⟨P,0,none⟩) hPl,hS.cell (p:=⟨P,1,none⟩) hPl,hS.cell (p:=⟨P,2,none⟩) hPl,hS.cell (p:=⟨P,3,none⟩) hPl,hS.cell (p:=⟨P,4,none⟩) hPl,hS.cell (p:=⟨P,5,none⟩) hPl,hS.cell (p:=⟨P,6,none⟩) hPl,hS.cell (p:=⟨P,7,none⟩) hPl,hS.cell (p:=⟨P,8,none⟩) hPl⟩
   clear hK K hS;try simp only [Act.put,lt,ly,lu]
   refine rd (i:=1) (h:=fun K hK=>?_)
   go_simp;go_at_call 25
   refine (Ay' (w:=w2) em.out (by omega) (by omega)).mono ?_
   rintro e w3 ⟨v3,rfl,hv3,b3⟩
   obtain ⟨C23,j23,C24,j24,rfl,-,-⟩:=id hv3.opened
   replace hv3:=hid hv3
   replace b3:=hid b3
   have y0_3:=hid (bS y0_2.out b3.out)
   have hS:=y0_3.out
   clear hHeld
   refine hK.out _ _ ?_ (fun hHeld=>?_)
   · (try dsimp only)
     exact ⟨hS.cell (p:=⟨P,0,none⟩) hPl,hS.cell (p:=⟨P,1,none⟩) hPl,hS.cell (p:=⟨P,2,none⟩) hPl,hS.cell (p:=⟨P,3,none⟩) hPl,hS.cell (p:=⟨P,4,none⟩) hPl,hS.cell (p:=⟨P,5,none⟩) hPl,hS.cell (p:=⟨P,6,none⟩) hPl,hS.cell (p:=⟨P,7,none⟩) hPl,hS.cell (p:=⟨P,8,none⟩) hPl⟩
   clear hK K hS;try simp only [Act.put,lt,ly,lu]
   refine rd (i:=2) (h:=fun K hK=>?_)
   go_simp;go_at_call 25
   refine (Ay' (w:=w3) en.out (by omega) (by omega)).mono ?_
   rintro e w4 ⟨v4,rfl,hv4,b4⟩
   obtain ⟨C25,j25,C26,j26,rfl,-,-⟩:=id hv4.opened
   replace hv4:=hid hv4
   replace b4:=hid b4
   have y0_4:=hid (bS y0_3.out b4.out)
   have hS:=y0_4.out
   clear hHeld
   refine hK.out _ _ ?_ (fun hHeld=>?_)
   · (try dsimp only)
     exact ⟨hS.cell (p:=⟨P,0,none⟩) hPl,hS.cell (p:=⟨P,1,none⟩) hPl,hS.cell (p:=⟨P,2,none⟩) hPl,hS.cell (p:=⟨P,3,none⟩) hPl,hS.cell (p:=⟨P,4,none⟩) hPl,hS.cell (p:=⟨P,5,none⟩) hPl,hS.cell (p:=⟨P,6,none⟩) hPl,hS.cell (p:=⟨P,7,none⟩) hPl,hS.cell (p:=⟨P,8,none⟩) hPl⟩
   clear hK K hS;try simp only [Act.put,lt,ly,lu]
   refine rd (i:=3) (h:=fun K hK=>?_)
   have y1_4:=hid (bS (bS b2.out b3.out) b4.out)
   have lb_sl:w1.heap.size≤w4.heap.size:=y1_4.out.size
   have y2_4:=hid (bS b3.out b4.out)
   have lt_q_sl:w1.heap.size<w4.heap.size:=Af' (Ac' L2.out y2_4.out)
   go_simp
   obtain ⟨w5,hw5⟩:=eX (w4.alloc (.cells #[.bool (decide (m.num<0)),.slice C23 (Vx.len m.num.natAbs) j23,.slice C24 (Vx.len (below m.den)) j24,.bool (decide (n.num<0)),.slice C25 (Vx.len n.num.natAbs) j25,.slice C26 (Vx.len (below n.den)) j26] 32))
   have b5:=hid (Ar hw5)
   have L5:=hid (At' hw5)
   rw [←hw5]
   clear hw5
   have y0_5:=hid (bS y0_4.out b5.out)
   have hS:=y0_5.out
   clear hHeld
   refine hK.out _ _ ?_ (fun hHeld=>?_)
   · (try dsimp only)
     exact ⟨hS.cell (p:=⟨P,0,none⟩) hPl,hS.cell (p:=⟨P,1,none⟩) hPl,hS.cell (p:=⟨P,2,none⟩) hPl,hS.cell (p:=⟨P,3,none⟩) hPl,hS.cell (p:=⟨P,4,none⟩) hPl,hS.cell (p:=⟨P,5,none⟩) hPl,hS.cell (p:=⟨P,6,none⟩) hPl,hS.cell (p:=⟨P,7,none⟩) hPl,hS.cell (p:=⟨P,8,none⟩) hPl⟩
   clear hK K hS;try simp only [Act.put,lt,ly,lu]
   refine rd (i:=4) (h:=fun K hK=>?_)
   have y3_5:=hid (bS b4.out b5.out)
   go_simp;go_at_call 36
   refine (BA (hp.out.keep y0_5.out) (BT L5.out (hv3.out.keep y3_5.out) (hv4.out.keep b5.out)) KP.out.1 (nT KQ.out.2.1 (by omega)) (nT KQ.out.2.2 (by omega)) ⟨nT KP.out.2.2 (by omega),hr0.out⟩ ⟨nT KP.out.2.1.1 (by omega),nT KP.out.2.1.2 (by omega)⟩ KQ.out.1.1 KQ.out.1.2).mono ?_
   rintro e w6 ⟨v6,rfl,hv6,b6⟩
   obtain ⟨C27,j27,C28,j28,C29,j29,C30,j30,rfl,-,-,-,-⟩:=id hv6.opened
   replace hv6:=hid hv6
   replace b6:=hid b6
   have y0_6:=hid (bS y0_5.out b6.out)
   have hS:=y0_6.out
   clear hHeld
   refine hK.out _ _ ?_ (fun hHeld=>?_)
   · (try dsimp only)
     exact ⟨hS.cell (p:=⟨P,0,none⟩) hPl,hS.cell (p:=⟨P,1,none⟩) hPl,hS.cell (p:=⟨P,2,none⟩) hPl,hS.cell (p:=⟨P,3,none⟩) hPl,hS.cell (p:=⟨P,4,none⟩) hPl,hS.cell (p:=⟨P,5,none⟩) hPl,hS.cell (p:=⟨P,6,none⟩) hPl,hS.cell (p:=⟨P,7,none⟩) hPl,hS.cell (p:=⟨P,8,none⟩) hPl⟩
   clear hK K hS;try simp only [Act.put,lt,ly,lu]
   refine tk (i:=5) (h:=?_)
   try simp only [Act.put,lt,ly,lu]
   refine tk (i:=6) (h:=?_)
   try simp only [Act.put,lt,ly,lu]
   refine tk (i:=7) (h:=?_)
   try simp only [Act.put,lt,ly,lu]
   refine rd (i:=9) (h:=fun K hK=>?_)
   have y2_6:=hid (bS (bS y2_4.out b5.out) b6.out)
   have DBq25:=Ac' L2.out y2_6.out
   have q0:w6.cell? ⟨w1.heap.size,0,none⟩=some (.bool false):=cR _ _ _ _ _ _ DBq25
   have F0:w6.frozen? ⟨w1.heap.size,0,none⟩=false:=fR w6 (w1.heap.size) 0 _ _ DBq25
   have q1:w6.cell? ⟨w1.heap.size,1,none⟩=some (.slice none 0 0):=cR _ _ _ _ _ _ DBq25
   have F1:w6.frozen? ⟨w1.heap.size,1,none⟩=false:=fR w6 (w1.heap.size) 1 _ _ DBq25
   have q2:w6.cell? ⟨w1.heap.size,2,none⟩=some (.slice none 0 0):=cR _ _ _ _ _ _ DBq25
   have F2:w6.frozen? ⟨w1.heap.size,2,none⟩=false:=fR w6 (w1.heap.size) 2 _ _ DBq25
   have q3:w6.cell? ⟨w1.heap.size,3,none⟩=some (.bool false):=cR _ _ _ _ _ _ DBq25
   have F3:w6.frozen? ⟨w1.heap.size,3,none⟩=false:=fR w6 (w1.heap.size) 3 _ _ DBq25
   have q4:w6.cell? ⟨w1.heap.size,4,none⟩=some (.slice none 0 0):=cR _ _ _ _ _ _ DBq25
   have F4:w6.frozen? ⟨w1.heap.size,4,none⟩=false:=fR w6 (w1.heap.size) 4 _ _ DBq25
   have q5:w6.cell? ⟨w1.heap.size,5,none⟩=some (.slice none 0 0):=cR _ _ _ _ _ _ DBq25
   have F5:w6.frozen? ⟨w1.heap.size,5,none⟩=false:=fR w6 (w1.heap.size) 5 _ _ DBq25
   have hS:=y0_6.out
   have hz7:w.heap.size≤w6.heap.size:=hS.size
   go_simp
   clear q0 F0 q1 F1 q2 F2 q3 F3 q4 F4 q5 F5
   have FV:=hid hv6.out
   have FB:=hid y0_6.out
   obtain ⟨w7,hw⟩:=eX (((((((w6.setCell ⟨w1.heap.size,0,none⟩ (.bool (decide (z.num<0)))).setCell ⟨w1.heap.size,1,none⟩ (.slice C27 (Vx.len z.num.natAbs) j27)).setCell ⟨w1.heap.size,2,none⟩ (.slice C28 (Vx.len (below z.den)) j28)).setCell ⟨w1.heap.size,3,none⟩ (.bool (decide (v.num<0)))).setCell ⟨w1.heap.size,4,none⟩ (.slice C29 (Vx.len v.num.natAbs) j29)).setCell ⟨w1.heap.size,5,none⟩ (.slice C30 (Vx.len (below v.den)) j30)))
   have hse7:w7.heap.size=w6.heap.size:=by rw [hw];simp
   obtain ⟨E,OT,LV,BL⟩:=Av DBq25 hw
   rw [←hw]
   clear hw
   have L7:=hid E
   have FB7:=hid (BL _ _ (by omega) FB.out)
   have HS7:=hid (BL _ _ (show w.heap.size≤w1.heap.size by omega) hS)
   have KVD7:=hid (LV.box hv6.out)
   have s0_7:w7.cell? ⟨P,0,none⟩=w.cell? ⟨P,0,none⟩:=(Aa' OT (by omega) (ltl hPl hz7)).trans (hS.cell (p:=⟨P,0,none⟩) hPl)
   have s1_7:w7.cell? ⟨P,1,none⟩=w.cell? ⟨P,1,none⟩:=(Aa' OT (by omega) (ltl hPl hz7)).trans (hS.cell (p:=⟨P,1,none⟩) hPl)
   have s2_7:w7.cell? ⟨P,2,none⟩=w.cell? ⟨P,2,none⟩:=(Aa' OT (by omega) (ltl hPl hz7)).trans (hS.cell (p:=⟨P,2,none⟩) hPl)
   have s3_7:w7.cell? ⟨P,3,none⟩=w.cell? ⟨P,3,none⟩:=(Aa' OT (by omega) (ltl hPl hz7)).trans (hS.cell (p:=⟨P,3,none⟩) hPl)
   have s4_7:w7.cell? ⟨P,4,none⟩=w.cell? ⟨P,4,none⟩:=(Aa' OT (by omega) (ltl hPl hz7)).trans (hS.cell (p:=⟨P,4,none⟩) hPl)
   have s5_7:w7.cell? ⟨P,5,none⟩=w.cell? ⟨P,5,none⟩:=(Aa' OT (by omega) (ltl hPl hz7)).trans (hS.cell (p:=⟨P,5,none⟩) hPl)
   have s6_7:w7.cell? ⟨P,6,none⟩=w.cell? ⟨P,6,none⟩:=(Aa' OT (by omega) (ltl hPl hz7)).trans (hS.cell (p:=⟨P,6,none⟩) hPl)
   have s7_7:w7.cell? ⟨P,7,none⟩=w.cell? ⟨P,7,none⟩:=(Aa' OT (by omega) (ltl hPl hz7)).trans (hS.cell (p:=⟨P,7,none⟩) hPl)
   have s8_7:w7.cell? ⟨P,8,none⟩=w.cell? ⟨P,8,none⟩:=(Aa' OT (by omega) (ltl hPl hz7)).trans (hS.cell (p:=⟨P,8,none⟩) hPl)
   refine hK.out _ _ ?_ (fun hHeld2=>?_)
   · (try dsimp only)
     exact ⟨s0_7,s1_7,s2_7,s3_7,s4_7,s5_7,s6_7,s7_7,s8_7⟩
   clear hK K hHeld hS OT LV BL FV FB E DBq25 s0_7 s1_7 s2_7 s3_7 s4_7 s5_7 s6_7 s7_7 s8_7
   try simp only [Act.put,lt,ly,lu]
   have hHeld:=hHeld2
   clear hHeld2
   refine tk (i:=10) (h:=?_)
   try simp only [Act.put,lt,ly,lu]
   refine wpAnyH_done (by kernel_rfl) ?_ _
   clear hHeld
   have FB:=hid FB7.out
   go_wp2_with fail
   refine hG.out _ _ ?_
   exact BA' (Ac' hP.out FB.out) (hp.out.keep FB.out) ea.out eb.out er.out ⟨(FB.out.cell (p:=⟨g,6,none⟩) hgl).trans f0,(FB.out.cell (p:=⟨g,7,none⟩) hgl).trans f1,(FB.out.cell (p:=⟨g,8,none⟩) hgl).trans f2,(FB.out.cell (p:=⟨g,9,none⟩) hgl).trans f3,(FB.out.cell (p:=⟨g,10,none⟩) hgl).trans f4,(FB.out.cell (p:=⟨g,11,none⟩) hgl).trans f5⟩ (hfb.out.keep FB.out) L7.out KVD7.out ex.out ey.out ez.out ev.out (Ar' hT.out FB.out) (fun w' h=>hPo.out w' (Ae' FB.out h))
theorem Eb {w:World} {P:Nat} {a b r:Rat} {A1 B1 A2 B2 A3 B3:Option Addr} {c1 d1 c2 d2 c3 d3:Nat} {x y:Rat} {g:Nat} {A4 B4 A5 B5:Option Addr} {c4 d4 c5 d5:Nat} {y0 y2 y5 y6 y7 y8 y9 y10 y11 y12 y13 y14 y15 y16 y17 y18 y19 y20 y21 y22 y23 y24 y25 y26 y27 y28 y29 y30 y31 y32 y33 y34 y35 y36 y37 y38 y39 y40 y41 y42 y43 y44 y45 y46 y47 y48 y49 y50 y51 y52 y53 y54 y55 y56 y57 y58 y59 y60 y61 y62 y63 y64 y65 y66 y67 y68 y69 y70 y71 y72 y73 y74 y75 y76 y77 y78 y79 y80 y81 y82 y83 y84 y85 y86 y87 y88 y89 y90 y91 y92 y93 y94 y95 y96 y97 y98 y99 y100 y101 y102 y103 y104 y105 y106 y107 y108 y109 y110 y111 y112 y113:Value} {Po:Ending→World→Prop} (hP:w.heap[P]?=some (.cells #[.bool (decide (a.num<0)),.slice A1 (Vx.len a.num.natAbs) c1,.slice B1 (Vx.len (below a.den)) d1,.bool (decide (b.num<0)),.slice A2 (Vx.len b.num.natAbs) c2,.slice B2 (Vx.len (below b.den)) d2,.bool (decide (r.num<0)),.slice A3 (Vx.len r.num.natAbs) c3,.slice B3 (Vx.len (below r.den)) d3] 71 (0,0))) (hp:AQ' w (.agg #[.bool (decide (a.num<0)),.slice A1 (Vx.len a.num.natAbs) c1,.slice B1 (Vx.len (below a.den)) d1,.bool (decide (b.num<0)),.slice A2 (Vx.len b.num.natAbs) c2,.slice B2 (Vx.len (below b.den)) d2,.bool (decide (r.num<0)),.slice A3 (Vx.len r.num.natAbs) c3,.slice B3 (Vx.len (below r.den)) d3]) a b r) (ea:mkRat 1 2=a) (eb:mkRat 3 4=b) (er:0=r) (hf:w.cell? ⟨g,6,none⟩=some (.bool (decide (x.num<0)))∧w.cell? ⟨g,7,none⟩=some (.slice A4 (Vx.len x.num.natAbs) c4)∧w.cell? ⟨g,8,none⟩=some (.slice B4 (Vx.len (below x.den)) d4)∧w.cell? ⟨g,9,none⟩=some (.bool (decide (y.num<0)))∧w.cell? ⟨g,10,none⟩=some (.slice A5 (Vx.len y.num.natAbs) c5)∧w.cell? ⟨g,11,none⟩=some (.slice B5 (Vx.len (below y.den)) d5)) (hfb:Aj w (.agg #[.bool (decide (x.num<0)),.slice A4 (Vx.len x.num.natAbs) c4,.slice B4 (Vx.len (below x.den)) d4,.bool (decide (y.num<0)),.slice A5 (Vx.len y.num.natAbs) c5,.slice B5 (Vx.len (below y.den)) d5]) x y) (ex:(6:Rat)=x) (ey:mkRat 15 2=y) (hT:TabAt 0 Lib.deBruijn64tab w) (hPo:∀ w',Below w.heap.size w w'→Po (.returned (.bool true)) w') :
   (codeAt 3 Tryz.f7).wp Tryz.prog (bodyPost Tryz.prog Tryz.f7 Po) { tmps:=#[y0,.pointer (some ⟨P,0,none⟩),y2,.slice (some ⟨g,0,none⟩) 2 2,.int .i64 0,y5,y6,y7,y8,y9,y10,y11,y12,y13,y14,y15,y16,y17,y18,y19,y20,y21,y22,y23,y24,y25,y26,y27,y28,y29,y30,y31,y32,y33,y34,y35,y36,y37,y38,y39,y40,y41,y42,y43,y44,y45,y46,y47,y48,y49,y50,y51,y52,y53,y54,y55,y56,y57,y58,y59,y60,y61,y62,y63,y64,y65,y66,y67,y68,y69,y70,y71,y72,y73,y74,y75,y76,y77,y78,y79,y80,y81,y82,y83,y84,y85,y86,y87,y88,y89,y90,y91,y92,y93,y94,y95,y96,y97,y98,y99,y100,y101,y102,y103,y104,y105,y106,y107,y108,y109,y110,y111,y112,y113],defers:=[] } w:=by
 obtain ⟨m,em⟩:=eY (((8:Int):Rat):Rat)
 obtain ⟨n,en⟩:=eY (((1:Int):Rat):Rat)
 have KP:=hid (Dn ea eb er)
 have KL:=hid (H6' em en ea)
 obtain ⟨f0,f1,f2,f3,f4,f5⟩:=hf
 have hgl:=bL _ _ f0
 have hPl:=Af' hP
 obtain ⟨z0,z1,z2,z3,z4,z5,z6,z7,z8⟩:=CJ' hP
 replace ex:=hid ex
 replace ey:=hid ey
 replace em:=hid em
 replace en:=hid en
 replace ea:=hid ea
 replace eb:=hid eb
 replace er:=hid er
 replace hP:=hid hP
 replace hp:=hid hp
 replace hPo:=hid hPo
 replace hT:=hid hT
 replace hfb:=hid hfb
 show Code.wp _ (Code.seq _ _) _ _ _
 refine wp_seq_k ?_
 intro G hG
 replace hG:=hid hG
 go_wp2_with fail
 refine wp_region_held_drew (S:=(fun w'=>(w'.cell? ⟨P,0,none⟩=w.cell? ⟨P,0,none⟩∧w'.cell? ⟨P,1,none⟩=w.cell? ⟨P,1,none⟩∧w'.cell? ⟨P,2,none⟩=w.cell? ⟨P,2,none⟩∧w'.cell? ⟨P,3,none⟩=w.cell? ⟨P,3,none⟩∧w'.cell? ⟨P,4,none⟩=w.cell? ⟨P,4,none⟩∧w'.cell? ⟨P,5,none⟩=w.cell? ⟨P,5,none⟩∧w'.cell? ⟨P,6,none⟩=w.cell? ⟨P,6,none⟩∧w'.cell? ⟨P,7,none⟩=w.cell? ⟨P,7,none⟩∧w'.cell? ⟨P,8,none⟩=w.cell? ⟨P,8,none⟩))) (by kernel_rfl) ?_ (fun hHeld=>?_)
 · (try dsimp only)
   exact ⟨rfl,rfl,rfl,rfl,rfl,rfl,rfl,rfl,rfl⟩
 obtain ⟨w1,hw1⟩:=eX w.drew
 have b1:Hid (Below w.heap.size w w1):=hid (by rw [hw1];exact ⟨rfl,rfl,rfl,nL _,fun _ _=>rfl⟩)
 rw [←hw1] at hHeld ⊢
 clear hw1
 have lbW:w.heap.size≤w1.heap.size:=b1.out.size
 have lbS:w.heap.size≤w1.heap.size:=b1.out.size
 refine tk (i:=0) (h:=?_)
 try simp only [Act.put,lt,ly,lu]
 refine rd (i:=1) (h:=fun K hK=>?_)
 go_simp;go_at_call 25
 refine (Ay' (w:=w1) em.out (by omega) (by omega)).mono ?_
 rintro e w2 ⟨v2,rfl,hv2,b2⟩
 obtain ⟨C1,j1,C2,j2,rfl,-,-⟩:=id hv2.opened
 replace hv2:=hid hv2
 replace b2:=hid b2
 have y0_2:=hid (bS b1.out b2.out)
 have hS:=y0_2.out
 clear hHeld
 refine hK.out _ _ ?_ (fun hHeld=>?_)
 · (try dsimp only)
   exact ⟨hS.cell (p:=⟨P,0,none⟩) hPl,hS.cell (p:=⟨P,1,none⟩) hPl,hS.cell (p:=⟨P,2,none⟩) hPl,hS.cell (p:=⟨P,3,none⟩) hPl,hS.cell (p:=⟨P,4,none⟩) hPl,hS.cell (p:=⟨P,5,none⟩) hPl,hS.cell (p:=⟨P,6,none⟩) hPl,hS.cell (p:=⟨P,7,none⟩) hPl,hS.cell (p:=⟨P,8,none⟩) hPl⟩
 clear hK K hS;try simp only [Act.put,lt,ly,lu]
 refine rd (i:=2) (h:=fun K hK=>?_)
 go_simp;go_at_call 25
 refine (Ay' (w:=w2) en.out (by omega) (by omega)).mono ?_
 rintro e w3 ⟨v3,rfl,hv3,b3⟩
 obtain ⟨C3,j3,C4,j4,rfl,-,-⟩:=id hv3.opened
 replace hv3:=hid hv3
 replace b3:=hid b3
 have y0_3:=hid (bS y0_2.out b3.out)
 have hS:=y0_3.out
 clear hHeld
 refine hK.out _ _ ?_ (fun hHeld=>?_)
 · (try dsimp only)
   exact ⟨hS.cell (p:=⟨P,0,none⟩) hPl,hS.cell (p:=⟨P,1,none⟩) hPl,hS.cell (p:=⟨P,2,none⟩) hPl,hS.cell (p:=⟨P,3,none⟩) hPl,hS.cell (p:=⟨P,4,none⟩) hPl,hS.cell (p:=⟨P,5,none⟩) hPl,hS.cell (p:=⟨P,6,none⟩) hPl,hS.cell (p:=⟨P,7,none⟩) hPl,hS.cell (p:=⟨P,8,none⟩) hPl⟩
 clear hK K hS;try simp only [Act.put,lt,ly,lu]
 refine rd (i:=3) (h:=fun K hK=>?_)
 go_simp;go_at_call 35
 refine (EX (hp.out.keep y0_3.out) (hv2.out.keep b3.out) hv3.out KP.out.1 KL.out.2.1.1 KL.out.2.1.2 (nT KP.out.2.1.1 (by omega)) (nT KP.out.2.1.2 (by omega)) (nT KL.out.2.2.1 (by omega)) (nT KL.out.2.2.2 (by omega))).mono ?_
 rintro e w4 hSR
 obtain ⟨rfl,b4⟩:e=.returned (.tuple #[.int .i64 3,.int .i64 0])∧Below w3.heap.size w3 w4:=by
   obtain ⟨h,hb⟩:=hSR
   refine ⟨?_,hb⟩
   rcases h with ⟨k,hk,he,h1,h2⟩ | ⟨-,h⟩
   · have hk3:k=3:=by
       rcases Nat.lt_trichotomy k 3 with h3 | h3 | h3
       · have hc:k=0∨k=1∨k=2:=by omega
         rcases hc with rfl | rfl | rfl
         · exact absurd h1 (Rat.not_le.2 KL.out.1.2.1)
         · exact absurd h1 (Rat.not_le.2 KL.out.1.2.2.1)
         · exact absurd h1 (Rat.not_le.2 KL.out.1.2.2.2)
       · exact h3
       · exact absurd KL.out.1.1 (Rat.not_le.2 (h2 3 h3))
     subst hk3
     exact he
   · exact absurd KL.out.1.1 (Rat.not_le.2 (h 3 (by omega)))
 replace b4:=hid b4
 clear hSR
 have y0_4:=hid (bS y0_3.out b4.out)
 have hS:=y0_4.out
 clear hHeld
 refine hK.out _ _ ?_ (fun hHeld=>?_)
 · (try dsimp only)
   exact ⟨hS.cell (p:=⟨P,0,none⟩) hPl,hS.cell (p:=⟨P,1,none⟩) hPl,hS.cell (p:=⟨P,2,none⟩) hPl,hS.cell (p:=⟨P,3,none⟩) hPl,hS.cell (p:=⟨P,4,none⟩) hPl,hS.cell (p:=⟨P,5,none⟩) hPl,hS.cell (p:=⟨P,6,none⟩) hPl,hS.cell (p:=⟨P,7,none⟩) hPl,hS.cell (p:=⟨P,8,none⟩) hPl⟩
 clear hK K hS;try simp only [Act.put,lt,ly,lu]
 refine tk (i:=4) (h:=?_)
 try simp only [Act.put,lt,ly,lu]
 refine tk (i:=5) (h:=?_)
 try simp only [Act.put,lt,ly,lu]
 refine tk (i:=6) (h:=?_)
 try simp only [Act.put,lt,ly,lu]
 refine tk (i:=7) (h:=?_)
 try simp only [Act.put,lt,ly,lu]
 refine tk (i:=8) (h:=?_)
 try simp only [Act.put,lt,ly,lu]
 refine wpAnyH_done (by kernel_rfl) ?_ _
 clear hHeld
 have FB:=hid y0_4.out
 go_wp2_with fail
 refine hG.out _ _ ?_
 exact EX' (Ac' hP.out FB.out) (hp.out.keep FB.out) ea.out eb.out er.out ⟨(FB.out.cell (p:=⟨g,6,none⟩) hgl).trans f0,(FB.out.cell (p:=⟨g,7,none⟩) hgl).trans f1,(FB.out.cell (p:=⟨g,8,none⟩) hgl).trans f2,(FB.out.cell (p:=⟨g,9,none⟩) hgl).trans f3,(FB.out.cell (p:=⟨g,10,none⟩) hgl).trans f4,(FB.out.cell (p:=⟨g,11,none⟩) hgl).trans f5⟩ (hfb.out.keep FB.out) ex.out ey.out (Ar' hT.out FB.out) (fun w' h=>hPo.out w' (Ae' FB.out h))
end Go.Proofs.YtcicfnlljdnagaaGreatDoor.Rf
