/-
  Contracts of the functions that the law calls, for every input (Qk Rkd TH).
-/
import Derived.Test.YtflopjfnppolgaaGreatDoorZ00
import Derived.Test.YtflopjfnppolgaaGreatDoorZ37
import Derived.Test.YtflopjfnppolgaaGreatDoorZ36
import Derived.Test.YtflopjfnppolgaaGreatDoorZ31
import Derived.Test.YtflopjfnppolgaaGreatDoorZ39
import Derived.Laws.EntriesVeiled
import Derived.Test.YtflopjfnppolgaaGreatDoorZ47
import Derived.Test.YtflopjfnppolgaaGreatDoorZ45
set_option linter.all false
set_option maxRecDepth 100000
set_option maxHeartbeats 40000000
namespace Go.Proofs.YtflopjfnppolgaaGreatDoor.Rf
open Lib (hid)
open Go.RowKit
open Rx
open Vx (Aa' Ai Ai')
open List renaming flatMap_cons → zfa, flatMap_nil → zfb, append_nil → zfc, nil_append → zfd, cons_append → zfe, foldl_cons → zff, foldl_nil → zfg, getElem?_toArray → lg, getElem?_cons_zero → lz, getElem?_cons_succ → ls, setIfInBounds_toArray → lt, set_cons_zero → ly, set_cons_succ → lu
theorem Id' (w:World):Ao' w (.agg #[.bool false,.slice none 0 0,.slice none 0 0,.bool false,.slice none 0 0,.slice none 0 0]) 0 0:=Go.Proofs.YtflopjfnppolgaaGreatDoor.FF (Bi' w) (Bi' w)
theorem Gy {w:World} {g:Nat} {p q:Rat × Rat} {T:TypeId} {s10 s11 s20 s21:Bool} {A10 B10 A11 B11 A20 B20 A21 B21:Option Addr} {l10 c10 m10 d10 l11 c11 m11 d11 l20 c20 m20 d20 l21 c21 m21 d21:Nat} (h:w.heap[g]?=some (.cells #[.bool s10,.slice A10 l10 c10,.slice B10 m10 d10,.bool s11,.slice A11 l11 c11,.slice B11 m11 d11,.bool s20,.slice A20 l20 c20,.slice B20 m20 d20,.bool s21,.slice A21 l21 c21,.slice B21 m21 d21] T (0,0)))
   (hp:Ao' w (.agg #[.bool s10,.slice A10 l10 c10,.slice B10 m10 d10,.bool s11,.slice A11 l11 c11,.slice B11 m11 d11]) p.1 p.2) (hq:Ao' w (.agg #[.bool s20,.slice A20 l20 c20,.slice B20 m20 d20,.bool s21,.slice A21 l21 c21,.slice B21 m21 d21]) q.1 q.2):CP' w g 0 [p,q]:=by
 have hc:∀ (k:Nat) (v:Value),(#[.bool s10,.slice A10 l10 c10,.slice B10 m10 d10,.bool s11,.slice A11 l11 c11,.slice B11 m11 d11,.bool s20,.slice A20 l20 c20,.slice B20 m20 d20,.bool s21,.slice A21 l21 c21,.slice B21 m21 d21]:Array Value)[k]?=some v→w.cell? ⟨g,k,none⟩=some v:=fun k v hk=>(cR _ _ _ _ _ _ h).trans hk
 intro i x hi
 match i with
 | 0 =>
   obtain rfl:=Option.some.inj hi
   obtain ⟨a1,a2,a3,a4,a5,a6,a7,a8,he,-,-⟩:=id hp.opened
   rw [he] at hp
   injection he with he
   injection he with he
   simp only [List.cons.injEq] at he
   obtain ⟨e0,e1,e2,e3,e4,e5,-⟩:=he
   exact ⟨a1,a2,a3,a4,a5,a6,a7,a8,(hc 0 _ rfl).trans (congrArg some e0),(hc 1 _ rfl).trans (congrArg some e1),(hc 2 _ rfl).trans (congrArg some e2),(hc 3 _ rfl).trans (congrArg some e3),(hc 4 _ rfl).trans (congrArg some e4),(hc 5 _ rfl).trans (congrArg some e5),hp⟩
 | 1 =>
   obtain rfl:=Option.some.inj hi
   obtain ⟨a1,a2,a3,a4,a5,a6,a7,a8,he,-,-⟩:=id hq.opened
   rw [he] at hq
   injection he with he
   injection he with he
   simp only [List.cons.injEq] at he
   obtain ⟨e0,e1,e2,e3,e4,e5,-⟩:=he
   exact ⟨a1,a2,a3,a4,a5,a6,a7,a8,(hc 6 _ rfl).trans (congrArg some e0),(hc 7 _ rfl).trans (congrArg some e1),(hc 8 _ rfl).trans (congrArg some e2),(hc 9 _ rfl).trans (congrArg some e3),(hc 10 _ rfl).trans (congrArg some e4),(hc 11 _ rfl).trans (congrArg some e5),hq⟩
 | i+2=>simp at hi
theorem EO' {w:World} {P:Nat} {a b r:Rat} {A1 B1 A2 B2 A3 B3:Option Addr} {c1 d1 c2 d2 c3 d3:Nat}  {y0 y2 y3 y4 y5 y6 y7 y8 y9 y10 y11 y12 y13 y14 y15 y16 y17 y18 y19 y20 y21 y22 y23 y24 y25 y26 y27 y28 y29 y30 y31 y32 y33 y34 y35 y36 y37 y38 y39 y40 y41 y42 y43 y44 y45 y46 y47 y48 y49 y50 y51 y52 y53 y54 y55 y56 y57 y58 y59 y60 y61 y62 y63 y64 y65 y66 y67 y68 y69 y70 y71 y72 y73 y74 y75 y76 y77 y78 y79 y80 y81 y82 y83 y84 y85 y86 y87 y88 y89 y90 y91 y92 y93 y94 y95 y96 y97 y98 y99 y100 y101 y102 y103 y104 y105 y106 y107 y108 y109 y110 y111 y112 y113:Value} {Po:Ending→World→Prop} (hP:w.heap[P]?=some (.cells #[.bool (decide (a.num<0)),.slice A1 (Vx.len a.num.natAbs) c1,.slice B1 (Vx.len (below a.den)) d1,.bool (decide (b.num<0)),.slice A2 (Vx.len b.num.natAbs) c2,.slice B2 (Vx.len (below b.den)) d2,.bool (decide (r.num<0)),.slice A3 (Vx.len r.num.natAbs) c3,.slice B3 (Vx.len (below r.den)) d3] 39 (0,0))) (hp:AA' w (.agg #[.bool (decide (a.num<0)),.slice A1 (Vx.len a.num.natAbs) c1,.slice B1 (Vx.len (below a.den)) d1,.bool (decide (b.num<0)),.slice A2 (Vx.len b.num.natAbs) c2,.slice B2 (Vx.len (below b.den)) d2,.bool (decide (r.num<0)),.slice A3 (Vx.len r.num.natAbs) c3,.slice B3 (Vx.len (below r.den)) d3]) a b r) (ea:mkRat 1 2=a) (eb:mkRat 3 4=b) (er:0=r) (hT:TabAt 0 Lib.deBruijn64tab w) (hPo:∀ w',Below w.heap.size w w'→Po (.returned (.bool true)) w') :
   (codeAt 2 Tryz.f5).wp Tryz.prog (bodyPost Tryz.prog Tryz.f5 Po) { tmps:=#[y0,.pointer (some ⟨P,0,none⟩),y2,y3,y4,y5,y6,y7,y8,y9,y10,y11,y12,y13,y14,y15,y16,y17,y18,y19,y20,y21,y22,y23,y24,y25,y26,y27,y28,y29,y30,y31,y32,y33,y34,y35,y36,y37,y38,y39,y40,y41,y42,y43,y44,y45,y46,y47,y48,y49,y50,y51,y52,y53,y54,y55,y56,y57,y58,y59,y60,y61,y62,y63,y64,y65,y66,y67,y68,y69,y70,y71,y72,y73,y74,y75,y76,y77,y78,y79,y80,y81,y82,y83,y84,y85,y86,y87,y88,y89,y90,y91,y92,y93,y94,y95,y96,y97,y98,y99,y100,y101,y102,y103,y104,y105,y106,y107,y108,y109,y110,y111,y112,y113],defers:=[] } w:=by
 obtain ⟨m,em⟩:=eY (((8:Int):Rat):Rat)
 obtain ⟨x,ex⟩:=eY ((6:Rat):Rat)
 obtain ⟨y,ey⟩:=eY (mkRat 15 2:Rat)
 have KP:=hid (Dp' ea eb er)
 have KF:=hid (Hi' em ea eb ex ey)
 have hPl:=Al' hP
 obtain ⟨z0,z1,z2,z3,z4,z5,z6,z7,z8⟩:=AY hP
 replace ex:=hid ex
 replace ey:=hid ey
 replace em:=hid em
 replace ea:=hid ea
 replace eb:=hid eb
 replace er:=hid er
 replace hP:=hid hP
 replace hp:=hid hp
 replace hPo:=hid hPo
 replace hT:=hid hT
 show Code.wp _ (Code.seq _ _) _ _ _
 refine wp_seq_k ?_
 intro G hG
 replace hG:=hid hG
 go_wp2_with fail
 refine wp_region_held_drew (S:=(fun w'=>(w'.cell? ⟨P,0,none⟩=w.cell? ⟨P,0,none⟩∧w'.cell? ⟨P,1,none⟩=w.cell? ⟨P,1,none⟩∧w'.cell? ⟨P,2,none⟩=w.cell? ⟨P,2,none⟩∧w'.cell? ⟨P,3,none⟩=w.cell? ⟨P,3,none⟩∧w'.cell? ⟨P,4,none⟩=w.cell? ⟨P,4,none⟩∧w'.cell? ⟨P,5,none⟩=w.cell? ⟨P,5,none⟩∧w'.cell? ⟨P,6,none⟩=w.cell? ⟨P,6,none⟩∧w'.cell? ⟨P,7,none⟩=w.cell? ⟨P,7,none⟩∧w'.cell? ⟨P,8,none⟩=w.cell? ⟨P,8,none⟩))) (by kernel_rfl) ?_ (fun hHeld=>?_)
 · (try dsimp only)
   exact ⟨rfl,rfl,rfl,rfl,rfl,rfl,rfl,rfl,rfl⟩
 obtain ⟨w1,hw1⟩:=eX w.drew
 have b1:Hid (Below w.heap.size w w1):=hid (by rw [hw1];exact ⟨rfl,rfl,rfl,nL _,fun _ _=>rfl⟩)
 rw [←hw1] at hHeld ⊢
 clear hw1
 have lbW:w.heap.size≤w1.heap.size:=b1.out.size
 have lbS:w.heap.size≤w1.heap.size:=b1.out.size
 refine tk (i:=0) (h:=?_)
 try simp only [Act.put,lt,ly,lu]
 refine tk (i:=1) (h:=?_)
 try simp only [Act.put,lt,ly,lu]
 refine rdz (i:=2) (h:=fun K hK=>?_)
 go_simp;go_at_call 18
 refine (AE' (w:=w1) em.out (by omega) (by omega)).mono ?_
 rintro e w2 ⟨v2,rfl,hv2,b2⟩
 obtain ⟨C1,j1,C2,j2,rfl,-,-⟩:=id hv2.opened
 replace hv2:=hid hv2
 replace b2:=hid b2
 have y0_2:=hid (bS b1.out b2.out)
 have hS:=y0_2.out
 clear hHeld
 refine hK.out _ _ ?_ (fun hHeld=>?_)
 · (try dsimp only)
   exact ⟨hS.cell (p:=⟨P,0,none⟩) hPl,hS.cell (p:=⟨P,1,none⟩) hPl,hS.cell (p:=⟨P,2,none⟩) hPl,hS.cell (p:=⟨P,3,none⟩) hPl,hS.cell (p:=⟨P,4,none⟩) hPl,hS.cell (p:=⟨P,5,none⟩) hPl,hS.cell (p:=⟨P,6,none⟩) hPl,hS.cell (p:=⟨P,7,none⟩) hPl,hS.cell (p:=⟨P,8,none⟩) hPl⟩
 clear hK K hS;try simp only [Act.put,lt,ly,lu]
 refine rdz (i:=3) (h:=fun K hK=>?_)
 go_simp;go_at_call 27
 refine (Ey' hv2.out (nT KF.out.2.2 (by omega))).mono ?_
 rintro e w3 ⟨v3,rfl,hv3,b3⟩
 obtain ⟨C3,j3,C4,j4,C5,j5,C6,j6,rfl,-,-,-,-⟩:=id hv3.opened
 replace hv3:=hid hv3
 replace b3:=hid b3
 have y0_3:=hid (bS y0_2.out b3.out)
 have hS:=y0_3.out
 clear hHeld
 refine hK.out _ _ ?_ (fun hHeld=>?_)
 · (try dsimp only)
   exact ⟨hS.cell (p:=⟨P,0,none⟩) hPl,hS.cell (p:=⟨P,1,none⟩) hPl,hS.cell (p:=⟨P,2,none⟩) hPl,hS.cell (p:=⟨P,3,none⟩) hPl,hS.cell (p:=⟨P,4,none⟩) hPl,hS.cell (p:=⟨P,5,none⟩) hPl,hS.cell (p:=⟨P,6,none⟩) hPl,hS.cell (p:=⟨P,7,none⟩) hPl,hS.cell (p:=⟨P,8,none⟩) hPl⟩
 clear hK K hS;try simp only [Act.put,lt,ly,lu]
 refine rdz (i:=4) (h:=fun K hK=>?_)
 go_simp;go_at_call 18
 refine (AE' (w:=w3) em.out (by omega) (by omega)).mono ?_
 rintro e w4 ⟨v4,rfl,hv4,b4⟩
 obtain ⟨C7,j7,C8,j8,rfl,-,-⟩:=id hv4.opened
 replace hv4:=hid hv4
 replace b4:=hid b4
 have y0_4:=hid (bS y0_3.out b4.out)
 have hS:=y0_4.out
 clear hHeld
 refine hK.out _ _ ?_ (fun hHeld=>?_)
 · (try dsimp only)
   exact ⟨hS.cell (p:=⟨P,0,none⟩) hPl,hS.cell (p:=⟨P,1,none⟩) hPl,hS.cell (p:=⟨P,2,none⟩) hPl,hS.cell (p:=⟨P,3,none⟩) hPl,hS.cell (p:=⟨P,4,none⟩) hPl,hS.cell (p:=⟨P,5,none⟩) hPl,hS.cell (p:=⟨P,6,none⟩) hPl,hS.cell (p:=⟨P,7,none⟩) hPl,hS.cell (p:=⟨P,8,none⟩) hPl⟩
 clear hK K hS;try simp only [Act.put,lt,ly,lu]
 refine rdz (i:=5) (h:=fun K hK=>?_)
 go_simp;go_at_call 27
 refine (Ey' hv4.out (nT KF.out.2.2 (by omega))).mono ?_
 rintro e w5 ⟨v5,rfl,hv5,b5⟩
 obtain ⟨C9,j9,C10,j10,C11,j11,C12,j12,rfl,-,-,-,-⟩:=id hv5.opened
 replace hv5:=hid hv5
 replace b5:=hid b5
 have y0_5:=hid (bS y0_4.out b5.out)
 have hS:=y0_5.out
 clear hHeld
 refine hK.out _ _ ?_ (fun hHeld=>?_)
 · (try dsimp only)
   exact ⟨hS.cell (p:=⟨P,0,none⟩) hPl,hS.cell (p:=⟨P,1,none⟩) hPl,hS.cell (p:=⟨P,2,none⟩) hPl,hS.cell (p:=⟨P,3,none⟩) hPl,hS.cell (p:=⟨P,4,none⟩) hPl,hS.cell (p:=⟨P,5,none⟩) hPl,hS.cell (p:=⟨P,6,none⟩) hPl,hS.cell (p:=⟨P,7,none⟩) hPl,hS.cell (p:=⟨P,8,none⟩) hPl⟩
 clear hK K hS;try simp only [Act.put,lt,ly,lu]
 refine rdz (i:=6) (h:=fun K hK=>?_)
 have y1_5:=hid (bS (bS (bS b2.out b3.out) b4.out) b5.out)
 have lb_sl:w1.heap.size≤w5.heap.size:=y1_5.out.size
 go_simp
 obtain ⟨w6,hw6⟩:=eX (w5.alloc (.cells #[.bool (decide (m.num<0)),.slice C3 (Vx.len m.num.natAbs) j3,.slice C4 (Vx.len (below m.den)) j4,.bool (decide (m.num<0)),.slice C5 (Vx.len m.num.natAbs) j5,.slice C6 (Vx.len (below m.den)) j6,.bool (decide (m.num<0)),.slice C9 (Vx.len m.num.natAbs) j9,.slice C10 (Vx.len (below m.den)) j10,.bool (decide (m.num<0)),.slice C11 (Vx.len m.num.natAbs) j11,.slice C12 (Vx.len (below m.den)) j12] 37))
 have b6:=hid (AO' hw6)
 have L6:=hid (AR' hw6)
 rw [←hw6]
 clear hw6
 have y0_6:=hid (bS y0_5.out b6.out)
 have hS:=y0_6.out
 clear hHeld
 refine hK.out _ _ ?_ (fun hHeld=>?_)
 · (try dsimp only)
   exact ⟨hS.cell (p:=⟨P,0,none⟩) hPl,hS.cell (p:=⟨P,1,none⟩) hPl,hS.cell (p:=⟨P,2,none⟩) hPl,hS.cell (p:=⟨P,3,none⟩) hPl,hS.cell (p:=⟨P,4,none⟩) hPl,hS.cell (p:=⟨P,5,none⟩) hPl,hS.cell (p:=⟨P,6,none⟩) hPl,hS.cell (p:=⟨P,7,none⟩) hPl,hS.cell (p:=⟨P,8,none⟩) hPl⟩
 clear hK K hS;try simp only [Act.put,lt,ly,lu]
 refine rdz (i:=7) (h:=fun K hK=>?_)
 have y3_6:=hid (bS (bS b4.out b5.out) b6.out)
 go_simp;go_at_call 26
 refine (Gt (n:=2) (s0:=0) (s1:=0) (hp.out.keep y0_6.out) (Id' w6) (Gy (p:=(m,m)) (q:=(m,m)) L6.out (hv3.out.keep y3_6.out) (hv5.out.keep b6.out)) KP.out.1 rfl (by omega) (by omega) (fun k hk=>⟨nT (KF.out.2.1 ⟨k,by omega⟩).1 (by omega),nT (KF.out.2.1 ⟨k,by omega⟩).2 (by omega)⟩) (fun x hx=>by have h9:Aa' m≤1000000:=nT KF.out.2.2 (by omega);simp only [List.mem_cons,List.not_mem_nil,or_false,or_self] at hx;subst hx;exact ⟨h9,h9⟩) ⟨nT KP.out.2.1.1 (by omega),nT KP.out.2.1.2 (by omega)⟩).mono ?_
 rintro e w7 ⟨Bp,rfl,hcl,b7⟩
 have hf1:=hcl 1 (by omega)
 rw [KF.out.1] at hf1
 obtain ⟨A4,c4,B4,d4,A5,c5,B5,d5,f0,f1,f2,f3,f4,f5,hfb⟩:=hf1
 replace hfb:=hid hfb
 replace b7:=hid b7
 clear hcl
 have y0_7:=hid (bS y0_6.out b7.out)
 have hS:=y0_7.out
 clear hHeld
 refine hK.out _ _ ?_ (fun hHeld=>?_)
 · (try dsimp only)
   exact ⟨hS.cell (p:=⟨P,0,none⟩) hPl,hS.cell (p:=⟨P,1,none⟩) hPl,hS.cell (p:=⟨P,2,none⟩) hPl,hS.cell (p:=⟨P,3,none⟩) hPl,hS.cell (p:=⟨P,4,none⟩) hPl,hS.cell (p:=⟨P,5,none⟩) hPl,hS.cell (p:=⟨P,6,none⟩) hPl,hS.cell (p:=⟨P,7,none⟩) hPl,hS.cell (p:=⟨P,8,none⟩) hPl⟩
 clear hK K hS;try simp only [Act.put,lt,ly,lu]
 refine tk (i:=8) (h:=?_)
 try simp only [Act.put,lt,ly,lu]
 refine tk (i:=9) (h:=?_)
 try simp only [Act.put,lt,ly,lu]
 refine tk (i:=10) (h:=?_)
 try simp only [Act.put,lt,ly,lu]
 refine tk (i:=11) (h:=?_)
 try simp only [Act.put,lt,ly,lu]
 refine tk (i:=12) (h:=?_)
 try simp only [Act.put,lt,ly,lu]
 refine wpAnyH_done (by kernel_rfl) ?_ _
 clear hHeld
 have FB:=hid y0_7.out
 go_wp2_with fail
 refine hG.out _ _ ?_
 exact Em' (Ab' hP.out FB.out) (hp.out.keep FB.out) ea.out eb.out er.out ⟨f0,f1,f2,f3,f4,f5⟩ hfb.out ex.out ey.out (Au' hT.out FB.out) (fun w' h=>hPo.out w' (Ae' FB.out h))
theorem Ie {a b r:Rat} (ea:mkRat 1 2=a) (eb:mkRat 3 4=b) (er:0=r):As 1 1=a∧As 3 3=b∧As 0 0=r∧leastOf a [b]=a∧greatestOf a [b]=b:=by
 subst ea eb er
 decide +kernel
theorem Bq' {w:World} (hT:TabAt 0 Lib.deBruijn64tab w) :
   Calls Tryz.prog 5 #[] w (AI' w true):=by
 obtain ⟨a,ea⟩:=eY (mkRat 1 2:Rat)
 obtain ⟨b,eb⟩:=eY (mkRat 3 4:Rat)
 obtain ⟨r,er⟩:=eY ((0:Rat):Rat)
 have KA:=hid (Ie ea eb er)
 replace ea:=hid ea
 replace eb:=hid eb
 replace er:=hid er
 replace hT:=hid hT
 go_enter Tryz.func5,Tryz.ntmps5
 go_upto_region 1 with fail
 rename_i G hG
 replace hG:=hid hG
 have HX:=hid (Dk (w:=w) (M0:=1) (D0:=1) (M1:=3) (D1:=3) (M2:=0) (D2:=0) (x:=a) (y:=b) (lo:=a) (hi:=b) (r:=r) (by omega) (by omega) (by omega) (by omega) (by omega) (by omega) KA.out.1 KA.out.2.1 (by omega) (by omega) (by omega) KA.out.2.2.1 KA.out.2.2.2.1 KA.out.2.2.2.2)
 go_wp2_with fail
 refine (HX.out).mono ?_
 rintro e w1 ⟨v,v2,rfl,hp,hrp,b1⟩
 obtain ⟨A1,c1,B1,d1,A2,c2,B2,d2,A3,c3,B3,d3,rfl,-,-⟩:=id hp.opened
 obtain ⟨X1,x1,Y1,y1,X2,x2,Y2,y2,X3,x3,Y3,y3,rfl,-,-⟩:=id hrp
 replace hp:=hid hp
 replace b1:=hid b1
 clear hrp HX
 go_wp2_with fail
 obtain ⟨w2,hw2⟩:=eX ((w1.alloc (.cells #[.bool (decide (a.num<0)),.slice A1 (Vx.len a.num.natAbs) c1,.slice B1 (Vx.len (below a.den)) d1,.bool (decide (b.num<0)),.slice A2 (Vx.len b.num.natAbs) c2,.slice B2 (Vx.len (below b.den)) d2,.bool (decide (r.num<0)),.slice A3 (Vx.len r.num.natAbs) c3,.slice B3 (Vx.len (below r.den)) d3] 39)).alloc (.cells #[.bool (decide (a.num<0)),.slice X1 (len a.num.natAbs) x1,.slice Y1 (len a.den) y1,.bool (decide (b.num<0)),.slice X2 (len b.num.natAbs) x2,.slice Y2 (len b.den) y2,.bool (decide (r.num<0)),.slice X3 (len r.num.natAbs) x3,.slice Y3 (len r.den) y3] 47))
 obtain ⟨b2,L2,-⟩:=Ch hw2
 rw [←hw2]
 clear hw2
 refine hG.out _ _ ?_
 have FB:=bS b1.out b2
 exact EO' L2 (hp.out.keep b2) ea.out eb.out er.out (Au' hT.out FB) (fun w' h=>⟨rfl,Ae' FB h⟩)
theorem AX.keep {w w':World} {v:Value} {a b r:Rat} (h:AX w v a b r) (hb:Below w.heap.size w w'):AX w' v a b r:=by
 obtain ⟨A1,c1,B1,d1,A2,c2,B2,d2,A3,c3,B3,d3,e,h1,h2⟩:=h
 exact ⟨A1,c1,B1,d1,A2,c2,B2,d2,A3,c3,B3,d3,e,h1.keep hb,h2.keep hb⟩
theorem DH {M:Int} {D:Nat}:As M D<0↔M<0:=by
 unfold As
 have h:(0:Rat)<(((D%16+1:Nat):Int):Rat):=by
   have:(0:Int)<((D%16+1:Nat):Int):=by omega
   exact_mod_cast this
 have e:(M:Rat) / (((D%16+1:Nat):Int):Rat)<0↔(M:Rat)<0:=by
   rw [←Rat.not_le,←Rat.not_le,Gm h,Rat.zero_mul]
 rw [e]
 constructor
 · intro h2;exact Rat.intCast_neg_iff.1 h2
 · intro h2;exact Rat.intCast_neg_iff.2 h2
theorem Fp {w:World} {a b r m s:Rat} {A1 B1 A2 B2 A3 B3:Option Addr} {c1 d1 c2 d2 c3 d3:Nat} {M3 M4:Int} {D3 D4:Nat} {px pr n c:Nat} {ad:Option Addr} {l:List (Int × Nat)} {y0 y2 y3 y4 y6 y7 y11 y12 y13 y14 y15 y16 y17 y18 y19 y20 y21 y22 y23 y24 y25 y26 y27 y28 y29 y30 y31 y32 y33 y34 y35 y36 y37 y38 y39 y40 y41 y42 y43 y44 y45 y46 y47 y48 y49 y50 y51 y52 y53 y54 y55 y56 y57 y58 y59 y60 y61 y62 y63 y64 y65 y66 y67 y68 y69 y70 y71 y72 y73 y74 y75 y76 y77 y78 y79 y80 y81 y82 y83 y84 y85 y86 y87 y88 y89 y90 y91 y92 y93 y94 y95 y96 y97 y98 y99 y100 y101 y102 y103 y104 y105 y106 y107 y108 y109 y110 y111 y112:Value} {Po:Ending→World→Prop} (hP:w.heap[pr]?=some (.cells #[.bool (decide (a.num<0)),.slice A1 (len a.num.natAbs) c1,.slice B1 (len a.den) d1,.bool (decide (b.num<0)),.slice A2 (len b.num.natAbs) c2,.slice B2 (len b.den) d2,.bool (decide (r.num<0)),.slice A3 (len r.num.natAbs) c3,.slice B3 (len r.den) d3] 47 (0,0))) (hp:AX w (.agg #[.bool (decide (a.num<0)),.slice A1 (len a.num.natAbs) c1,.slice B1 (len a.den) d1,.bool (decide (b.num<0)),.slice A2 (len b.num.natAbs) c2,.slice B2 (len b.den) d2,.bool (decide (r.num<0)),.slice A3 (len r.num.natAbs) c3,.slice B3 (len r.den) d3]) a b r) (hX:w.heap[px]?=some (.cells #[.int .i32 M3,.int .u8 ((D3:Nat):Int),.int .i32 M4,.int .u8 ((D4:Nat):Int)] 30 (0,0))) (b3 : -2147483648≤M3∧M3≤2147483647) (b4 : -2147483648≤M4∧M4≤2147483647) (h3:D3≤255) (h4:D4≤255) (em:As M3 D3=m) (es:As M4 D4=s) (hl:AQ w ad l) (hok:Bg l) (hn:n=l.length) (sa:Aa' a≤100) (sb:Aa' b≤100) (sr:Aa' r≤100) (hT:TabAt 0 Lib.deBruijn64tab w) (hg:¬ Ar' a b r) (hPo:∀ w',Below w.heap.size w w'→Po (.returned (.bool true)) w') :
   (codeAt 4 Tryz.f3).wp Tryz.prog (bodyPost Tryz.prog Tryz.f3 Po) { tmps:=#[y0,.slice ad n c,y2,y3,y4,.pointer (some ⟨px,0,none⟩),y6,y7,.pointer (some ⟨pr,0,none⟩),.int .u8 0,.int .i64 2,y11,y12,y13,y14,y15,y16,y17,y18,y19,y20,y21,y22,y23,y24,y25,y26,y27,y28,y29,y30,y31,y32,y33,y34,y35,y36,y37,y38,y39,y40,y41,y42,y43,y44,y45,y46,y47,y48,y49,y50,y51,y52,y53,y54,y55,y56,y57,y58,y59,y60,y61,y62,y63,y64,y65,y66,y67,y68,y69,y70,y71,y72,y73,y74,y75,y76,y77,y78,y79,y80,y81,y82,y83,y84,y85,y86,y87,y88,y89,y90,y91,y92,y93,y94,y95,y96,y97,y98,y99,y100,y101,y102,y103,y104,y105,y106,y107,y108,y109,y110,y111,y112],defers:=[] } w:=by
 have dg:decide (Ar' a b r)=false:=dF_ hg
 replace hP:=hid hP
 replace hp:=hid hp
 replace hX:=hid hX
 replace em:=hid em
 replace es:=hid es
 replace hl:=hid hl
 replace hok:=hid hok
 replace hn:=hid hn
 replace hT:=hid hT
 replace hPo:=hid hPo
 replace dg:=hid dg
 obtain ⟨p0,p1,p2,p3,p4,p5,p6,p7,p8⟩:=AY hP.out
 obtain ⟨x0,x1,x2,x3⟩:w.cell? ⟨px,0,none⟩=some (.int .i32 M3)∧w.cell? ⟨px,1,none⟩=some (.int .u8 ((D3:Nat):Int))∧w.cell? ⟨px,2,none⟩=some (.int .i32 M4)∧w.cell? ⟨px,3,none⟩=some (.int .u8 ((D4:Nat):Int)):=⟨cR _ _ 0 _ _ _ hX.out,cR _ _ 1 _ _ _ hX.out,cR _ _ 2 _ _ _ hX.out,cR _ _ 3 _ _ _ hX.out⟩
 have lX:=Al' hX.out
 show Code.wp _ (Code.seq _ _) _ _ _
 have HX:=hid (BR hp.out (nT sa (by omega)) (nT sb (by omega)) dg.out)
 go_wp2_with fail
 refine (HX.out).mono ?_
 rintro e w1 ⟨rfl,b1⟩
 clear HX p0 p1 p2 p3 p4 p5 p6 p7 p8
 replace b1:=hid b1
 clear dg
 have HX:=hid (Bq' (w:=w1) (Au' hT.out b1.out))
 go_wp2_with fail
 refine (HX.out).mono ?_
 rintro e w9 ⟨rfl,b9⟩
 clear HX
 go_wp2_with fail
 exact hPo.out _ (Ae' b1.out b9)
theorem Ie' {w:World} {a b r m s:Rat} {A1 B1 A2 B2 A3 B3:Option Addr} {c1 d1 c2 d2 c3 d3:Nat} {M3 M4:Int} {D3 D4:Nat} {px pr n c:Nat} {ad:Option Addr} {l:List (Int × Nat)} {y0 y2 y3 y4 y6 y7 y11 y12 y13 y14 y15 y16 y17 y18 y19 y20 y21 y22 y23 y24 y25 y26 y27 y28 y29 y30 y31 y32 y33 y34 y35 y36 y37 y38 y39 y40 y41 y42 y43 y44 y45 y46 y47 y48 y49 y50 y51 y52 y53 y54 y55 y56 y57 y58 y59 y60 y61 y62 y63 y64 y65 y66 y67 y68 y69 y70 y71 y72 y73 y74 y75 y76 y77 y78 y79 y80 y81 y82 y83 y84 y85 y86 y87 y88 y89 y90 y91 y92 y93 y94 y95 y96 y97 y98 y99 y100 y101 y102 y103 y104 y105 y106 y107 y108 y109 y110 y111 y112:Value} {Po:Ending→World→Prop} (hP:w.heap[pr]?=some (.cells #[.bool (decide (a.num<0)),.slice A1 (len a.num.natAbs) c1,.slice B1 (len a.den) d1,.bool (decide (b.num<0)),.slice A2 (len b.num.natAbs) c2,.slice B2 (len b.den) d2,.bool (decide (r.num<0)),.slice A3 (len r.num.natAbs) c3,.slice B3 (len r.den) d3] 47 (0,0))) (hp:AX w (.agg #[.bool (decide (a.num<0)),.slice A1 (len a.num.natAbs) c1,.slice B1 (len a.den) d1,.bool (decide (b.num<0)),.slice A2 (len b.num.natAbs) c2,.slice B2 (len b.den) d2,.bool (decide (r.num<0)),.slice A3 (len r.num.natAbs) c3,.slice B3 (len r.den) d3]) a b r) (hX:w.heap[px]?=some (.cells #[.int .i32 M3,.int .u8 ((D3:Nat):Int),.int .i32 M4,.int .u8 ((D4:Nat):Int)] 30 (0,0))) (b3 : -2147483648≤M3∧M3≤2147483647) (b4 : -2147483648≤M4∧M4≤2147483647) (h3:D3≤255) (h4:D4≤255) (em:As M3 D3=m) (es:As M4 D4=s) (hl:AQ w ad l) (hok:Bg l) (hn:n=l.length) (sa:Aa' a≤100) (sb:Aa' b≤100) (sr:Aa' r≤100) (hT:TabAt 0 Lib.deBruijn64tab w) (hg:Ar' a b r) (hn5:200<n) (hPo:∀ w',Below w.heap.size w w'→Po (.returned (.bool true)) w') :
   (codeAt 4 Tryz.f3).wp Tryz.prog (bodyPost Tryz.prog Tryz.f3 Po) { tmps:=#[y0,.slice ad n c,y2,y3,y4,.pointer (some ⟨px,0,none⟩),y6,y7,.pointer (some ⟨pr,0,none⟩),.int .u8 0,.int .i64 5,y11,y12,y13,y14,y15,y16,y17,y18,y19,y20,y21,y22,y23,y24,y25,y26,y27,y28,y29,y30,y31,y32,y33,y34,y35,y36,y37,y38,y39,y40,y41,y42,y43,y44,y45,y46,y47,y48,y49,y50,y51,y52,y53,y54,y55,y56,y57,y58,y59,y60,y61,y62,y63,y64,y65,y66,y67,y68,y69,y70,y71,y72,y73,y74,y75,y76,y77,y78,y79,y80,y81,y82,y83,y84,y85,y86,y87,y88,y89,y90,y91,y92,y93,y94,y95,y96,y97,y98,y99,y100,y101,y102,y103,y104,y105,y106,y107,y108,y109,y110,y111,y112],defers:=[] } w:=by
 have dg:decide (Ar' a b r)=true:=dT_ hg
 have d1:decide (((n:Nat):Int)>200)=true:=dT_ (by omega)
 replace hP:=hid hP
 replace hp:=hid hp
 replace hX:=hid hX
 replace em:=hid em
 replace es:=hid es
 replace hl:=hid hl
 replace hok:=hid hok
 replace hn:=hid hn
 replace hT:=hid hT
 replace hPo:=hid hPo
 replace dg:=hid dg
 obtain ⟨p0,p1,p2,p3,p4,p5,p6,p7,p8⟩:=AY hP.out
 obtain ⟨x0,x1,x2,x3⟩:w.cell? ⟨px,0,none⟩=some (.int .i32 M3)∧w.cell? ⟨px,1,none⟩=some (.int .u8 ((D3:Nat):Int))∧w.cell? ⟨px,2,none⟩=some (.int .i32 M4)∧w.cell? ⟨px,3,none⟩=some (.int .u8 ((D4:Nat):Int)):=⟨cR _ _ 0 _ _ _ hX.out,cR _ _ 1 _ _ _ hX.out,cR _ _ 2 _ _ _ hX.out,cR _ _ 3 _ _ _ hX.out⟩
 have lX:=Al' hX.out
 show Code.wp _ (Code.seq _ _) _ _ _
 have HX:=hid (BR hp.out (nT sa (by omega)) (nT sb (by omega)) dg.out)
 go_wp2_with fail
 refine (HX.out).mono ?_
 rintro e w1 ⟨rfl,b1⟩
 clear HX p0 p1 p2 p3 p4 p5 p6 p7 p8
 replace b1:=hid b1
 clear dg
 have HX:=hid (Bq' (w:=w1) (Au' hT.out b1.out))
 go_wp2_with fail
 refine (HX.out).mono ?_
 rintro e w9 ⟨rfl,b9⟩
 clear HX
 go_wp2_with fail
 exact hPo.out _ (Ae' b1.out b9)
theorem If {w:World} {a b r m s:Rat} {A1 B1 A2 B2 A3 B3:Option Addr} {c1 d1 c2 d2 c3 d3:Nat} {M3 M4:Int} {D3 D4:Nat} {px pr n c:Nat} {ad:Option Addr} {l:List (Int × Nat)} {y0 y2 y3 y4 y6 y7 y11 y12 y13 y14 y15 y16 y17 y18 y19 y20 y21 y22 y23 y24 y25 y26 y27 y28 y29 y30 y31 y32 y33 y34 y35 y36 y37 y38 y39 y40 y41 y42 y43 y44 y45 y46 y47 y48 y49 y50 y51 y52 y53 y54 y55 y56 y57 y58 y59 y60 y61 y62 y63 y64 y65 y66 y67 y68 y69 y70 y71 y72 y73 y74 y75 y76 y77 y78 y79 y80 y81 y82 y83 y84 y85 y86 y87 y88 y89 y90 y91 y92 y93 y94 y95 y96 y97 y98 y99 y100 y101 y102 y103 y104 y105 y106 y107 y108 y109 y110 y111 y112:Value} {Po:Ending→World→Prop} (hP:w.heap[pr]?=some (.cells #[.bool (decide (a.num<0)),.slice A1 (len a.num.natAbs) c1,.slice B1 (len a.den) d1,.bool (decide (b.num<0)),.slice A2 (len b.num.natAbs) c2,.slice B2 (len b.den) d2,.bool (decide (r.num<0)),.slice A3 (len r.num.natAbs) c3,.slice B3 (len r.den) d3] 47 (0,0))) (hp:AX w (.agg #[.bool (decide (a.num<0)),.slice A1 (len a.num.natAbs) c1,.slice B1 (len a.den) d1,.bool (decide (b.num<0)),.slice A2 (len b.num.natAbs) c2,.slice B2 (len b.den) d2,.bool (decide (r.num<0)),.slice A3 (len r.num.natAbs) c3,.slice B3 (len r.den) d3]) a b r) (hX:w.heap[px]?=some (.cells #[.int .i32 M3,.int .u8 ((D3:Nat):Int),.int .i32 M4,.int .u8 ((D4:Nat):Int)] 30 (0,0))) (b3 : -2147483648≤M3∧M3≤2147483647) (b4 : -2147483648≤M4∧M4≤2147483647) (h3:D3≤255) (h4:D4≤255) (em:As M3 D3=m) (es:As M4 D4=s) (hl:AQ w ad l) (hok:Bg l) (hn:n=l.length) (sa:Aa' a≤100) (sb:Aa' b≤100) (sr:Aa' r≤100) (hT:TabAt 0 Lib.deBruijn64tab w) (hg:Ar' a b r) (hn5:n<2) (hPo:∀ w',Below w.heap.size w w'→Po (.returned (.bool true)) w') :
   (codeAt 4 Tryz.f3).wp Tryz.prog (bodyPost Tryz.prog Tryz.f3 Po) { tmps:=#[y0,.slice ad n c,y2,y3,y4,.pointer (some ⟨px,0,none⟩),y6,y7,.pointer (some ⟨pr,0,none⟩),.int .u8 0,.int .i64 7,y11,y12,y13,y14,y15,y16,y17,y18,y19,y20,y21,y22,y23,y24,y25,y26,y27,y28,y29,y30,y31,y32,y33,y34,y35,y36,y37,y38,y39,y40,y41,y42,y43,y44,y45,y46,y47,y48,y49,y50,y51,y52,y53,y54,y55,y56,y57,y58,y59,y60,y61,y62,y63,y64,y65,y66,y67,y68,y69,y70,y71,y72,y73,y74,y75,y76,y77,y78,y79,y80,y81,y82,y83,y84,y85,y86,y87,y88,y89,y90,y91,y92,y93,y94,y95,y96,y97,y98,y99,y100,y101,y102,y103,y104,y105,y106,y107,y108,y109,y110,y111,y112],defers:=[] } w:=by
 have dg:decide (Ar' a b r)=true:=dT_ hg
 have d1:decide (((n:Nat):Int)>200)=false:=dF_ (by omega)
 have d2:decide (((n:Nat):Int)<2)=true:=dT_ (by omega)
 replace hP:=hid hP
 replace hp:=hid hp
 replace hX:=hid hX
 replace em:=hid em
 replace es:=hid es
 replace hl:=hid hl
 replace hok:=hid hok
 replace hn:=hid hn
 replace hT:=hid hT
 replace hPo:=hid hPo
 replace dg:=hid dg
 obtain ⟨p0,p1,p2,p3,p4,p5,p6,p7,p8⟩:=AY hP.out
 obtain ⟨x0,x1,x2,x3⟩:w.cell? ⟨px,0,none⟩=some (.int .i32 M3)∧w.cell? ⟨px,1,none⟩=some (.int .u8 ((D3:Nat):Int))∧w.cell? ⟨px,2,none⟩=some (.int .i32 M4)∧w.cell? ⟨px,3,none⟩=some (.int .u8 ((D4:Nat):Int)):=⟨cR _ _ 0 _ _ _ hX.out,cR _ _ 1 _ _ _ hX.out,cR _ _ 2 _ _ _ hX.out,cR _ _ 3 _ _ _ hX.out⟩
 have lX:=Al' hX.out
 show Code.wp _ (Code.seq _ _) _ _ _
 have HX:=hid (BR hp.out (nT sa (by omega)) (nT sb (by omega)) dg.out)
 go_wp2_with fail
 refine (HX.out).mono ?_
 rintro e w1 ⟨rfl,b1⟩
 clear HX p0 p1 p2 p3 p4 p5 p6 p7 p8
 replace b1:=hid b1
 clear dg
 have HX:=hid (Bq' (w:=w1) (Au' hT.out b1.out))
 go_wp2_with fail
 refine (HX.out).mono ?_
 rintro e w9 ⟨rfl,b9⟩
 clear HX
 go_wp2_with fail
 exact hPo.out _ (Ae' b1.out b9)
theorem Hj {w:World} {a b r m s:Rat} {A1 B1 A2 B2 A3 B3:Option Addr} {c1 d1 c2 d2 c3 d3:Nat} {M3 M4:Int} {D3 D4:Nat} {px pr n c:Nat} {ad:Option Addr} {l:List (Int × Nat)} {y0 y2 y3 y4 y6 y7 y11 y12 y13 y14 y15 y16 y17 y18 y19 y20 y21 y22 y23 y24 y25 y26 y27 y28 y29 y30 y31 y32 y33 y34 y35 y36 y37 y38 y39 y40 y41 y42 y43 y44 y45 y46 y47 y48 y49 y50 y51 y52 y53 y54 y55 y56 y57 y58 y59 y60 y61 y62 y63 y64 y65 y66 y67 y68 y69 y70 y71 y72 y73 y74 y75 y76 y77 y78 y79 y80 y81 y82 y83 y84 y85 y86 y87 y88 y89 y90 y91 y92 y93 y94 y95 y96 y97 y98 y99 y100 y101 y102 y103 y104 y105 y106 y107 y108 y109 y110 y111 y112:Value} {Po:Ending→World→Prop} (hP:w.heap[pr]?=some (.cells #[.bool (decide (a.num<0)),.slice A1 (len a.num.natAbs) c1,.slice B1 (len a.den) d1,.bool (decide (b.num<0)),.slice A2 (len b.num.natAbs) c2,.slice B2 (len b.den) d2,.bool (decide (r.num<0)),.slice A3 (len r.num.natAbs) c3,.slice B3 (len r.den) d3] 47 (0,0))) (hp:AX w (.agg #[.bool (decide (a.num<0)),.slice A1 (len a.num.natAbs) c1,.slice B1 (len a.den) d1,.bool (decide (b.num<0)),.slice A2 (len b.num.natAbs) c2,.slice B2 (len b.den) d2,.bool (decide (r.num<0)),.slice A3 (len r.num.natAbs) c3,.slice B3 (len r.den) d3]) a b r) (hX:w.heap[px]?=some (.cells #[.int .i32 M3,.int .u8 ((D3:Nat):Int),.int .i32 M4,.int .u8 ((D4:Nat):Int)] 30 (0,0))) (b3 : -2147483648≤M3∧M3≤2147483647) (b4 : -2147483648≤M4∧M4≤2147483647) (h3:D3≤255) (h4:D4≤255) (em:As M3 D3=m) (es:As M4 D4=s) (hl:AQ w ad l) (hok:Bg l) (hn:n=l.length) (sa:Aa' a≤100) (sb:Aa' b≤100) (sr:Aa' r≤100) (hT:TabAt 0 Lib.deBruijn64tab w) (hg:Ar' a b r) (hn5:2≤n∧n≤200) (hs:s<0) (hPo:∀ w',Below w.heap.size w w'→Po (.returned (.bool true)) w') :
   (codeAt 4 Tryz.f3).wp Tryz.prog (bodyPost Tryz.prog Tryz.f3 Po) { tmps:=#[y0,.slice ad n c,y2,y3,y4,.pointer (some ⟨px,0,none⟩),y6,y7,.pointer (some ⟨pr,0,none⟩),.int .u8 0,.int .i64 3,y11,y12,y13,y14,y15,y16,y17,y18,y19,y20,y21,y22,y23,y24,y25,y26,y27,y28,y29,y30,y31,y32,y33,y34,y35,y36,y37,y38,y39,y40,y41,y42,y43,y44,y45,y46,y47,y48,y49,y50,y51,y52,y53,y54,y55,y56,y57,y58,y59,y60,y61,y62,y63,y64,y65,y66,y67,y68,y69,y70,y71,y72,y73,y74,y75,y76,y77,y78,y79,y80,y81,y82,y83,y84,y85,y86,y87,y88,y89,y90,y91,y92,y93,y94,y95,y96,y97,y98,y99,y100,y101,y102,y103,y104,y105,y106,y107,y108,y109,y110,y111,y112],defers:=[] } w:=by
 have dg:decide (Ar' a b r)=true:=dT_ hg
 have d1:decide (((n:Nat):Int)>200)=false:=dF_ (by omega)
 have d2:decide (((n:Nat):Int)<2)=false:=dF_ (by omega)
 have d3:decide (M4<0)=true:=dT_ (DH.1 (by rw [es];exact hs))
 replace hP:=hid hP
 replace hp:=hid hp
 replace hX:=hid hX
 replace em:=hid em
 replace es:=hid es
 replace hl:=hid hl
 replace hok:=hid hok
 replace hn:=hid hn
 replace hT:=hid hT
 replace hPo:=hid hPo
 replace dg:=hid dg
 obtain ⟨p0,p1,p2,p3,p4,p5,p6,p7,p8⟩:=AY hP.out
 obtain ⟨x0,x1,x2,x3⟩:w.cell? ⟨px,0,none⟩=some (.int .i32 M3)∧w.cell? ⟨px,1,none⟩=some (.int .u8 ((D3:Nat):Int))∧w.cell? ⟨px,2,none⟩=some (.int .i32 M4)∧w.cell? ⟨px,3,none⟩=some (.int .u8 ((D4:Nat):Int)):=⟨cR _ _ 0 _ _ _ hX.out,cR _ _ 1 _ _ _ hX.out,cR _ _ 2 _ _ _ hX.out,cR _ _ 3 _ _ _ hX.out⟩
 have lX:=Al' hX.out
 show Code.wp _ (Code.seq _ _) _ _ _
 have HX:=hid (BR hp.out (nT sa (by omega)) (nT sb (by omega)) dg.out)
 go_wp2_with fail
 refine (HX.out).mono ?_
 rintro e w1 ⟨rfl,b1⟩
 clear HX p0 p1 p2 p3 p4 p5 p6 p7 p8
 replace b1:=hid b1
 replace x0:=(b1.out.cell (p:=⟨px,0,none⟩) lX).trans x0
 replace x1:=(b1.out.cell (p:=⟨px,1,none⟩) lX).trans x1
 replace x2:=(b1.out.cell (p:=⟨px,2,none⟩) lX).trans x2
 replace x3:=(b1.out.cell (p:=⟨px,3,none⟩) lX).trans x3
 clear dg
 have HX:=hid (Bq' (w:=w1) (Au' hT.out b1.out))
 go_wp2_with fail
 refine (HX.out).mono ?_
 rintro e w9 ⟨rfl,b9⟩
 clear HX
 go_wp2_with fail
 exact hPo.out _ (Ae' b1.out b9)
theorem Hj' {w:World} {a b r m s:Rat} {A1 B1 A2 B2 A3 B3:Option Addr} {c1 d1 c2 d2 c3 d3:Nat} {M3 M4:Int} {D3 D4:Nat} {px pr n c:Nat} {ad:Option Addr} {l:List (Int × Nat)} {y0 y2 y3 y4 y6 y7 y11 y12 y13 y14 y15 y16 y17 y18 y19 y20 y21 y22 y23 y24 y25 y26 y27 y28 y29 y30 y31 y32 y33 y34 y35 y36 y37 y38 y39 y40 y41 y42 y43 y44 y45 y46 y47 y48 y49 y50 y51 y52 y53 y54 y55 y56 y57 y58 y59 y60 y61 y62 y63 y64 y65 y66 y67 y68 y69 y70 y71 y72 y73 y74 y75 y76 y77 y78 y79 y80 y81 y82 y83 y84 y85 y86 y87 y88 y89 y90 y91 y92 y93 y94 y95 y96 y97 y98 y99 y100 y101 y102 y103 y104 y105 y106 y107 y108 y109 y110 y111 y112:Value} {Po:Ending→World→Prop} (hP:w.heap[pr]?=some (.cells #[.bool (decide (a.num<0)),.slice A1 (len a.num.natAbs) c1,.slice B1 (len a.den) d1,.bool (decide (b.num<0)),.slice A2 (len b.num.natAbs) c2,.slice B2 (len b.den) d2,.bool (decide (r.num<0)),.slice A3 (len r.num.natAbs) c3,.slice B3 (len r.den) d3] 47 (0,0))) (hp:AX w (.agg #[.bool (decide (a.num<0)),.slice A1 (len a.num.natAbs) c1,.slice B1 (len a.den) d1,.bool (decide (b.num<0)),.slice A2 (len b.num.natAbs) c2,.slice B2 (len b.den) d2,.bool (decide (r.num<0)),.slice A3 (len r.num.natAbs) c3,.slice B3 (len r.den) d3]) a b r) (hX:w.heap[px]?=some (.cells #[.int .i32 M3,.int .u8 ((D3:Nat):Int),.int .i32 M4,.int .u8 ((D4:Nat):Int)] 30 (0,0))) (b3 : -2147483648≤M3∧M3≤2147483647) (b4 : -2147483648≤M4∧M4≤2147483647) (h3:D3≤255) (h4:D4≤255) (em:As M3 D3=m) (es:As M4 D4=s) (hl:AQ w ad l) (hok:Bg l) (hn:n=l.length) (sa:Aa' a≤100) (sb:Aa' b≤100) (sr:Aa' r≤100) (hT:TabAt 0 Lib.deBruijn64tab w) (hg:Ar' a b r) (hn5:2≤n∧n≤200) (hs:0≤s∧1≤s) (hPo:∀ w',Below w.heap.size w w'→Po (.returned (.bool true)) w') :
   (codeAt 4 Tryz.f3).wp Tryz.prog (bodyPost Tryz.prog Tryz.f3 Po) { tmps:=#[y0,.slice ad n c,y2,y3,y4,.pointer (some ⟨px,0,none⟩),y6,y7,.pointer (some ⟨pr,0,none⟩),.int .u8 0,.int .i64 3,y11,y12,y13,y14,y15,y16,y17,y18,y19,y20,y21,y22,y23,y24,y25,y26,y27,y28,y29,y30,y31,y32,y33,y34,y35,y36,y37,y38,y39,y40,y41,y42,y43,y44,y45,y46,y47,y48,y49,y50,y51,y52,y53,y54,y55,y56,y57,y58,y59,y60,y61,y62,y63,y64,y65,y66,y67,y68,y69,y70,y71,y72,y73,y74,y75,y76,y77,y78,y79,y80,y81,y82,y83,y84,y85,y86,y87,y88,y89,y90,y91,y92,y93,y94,y95,y96,y97,y98,y99,y100,y101,y102,y103,y104,y105,y106,y107,y108,y109,y110,y111,y112],defers:=[] } w:=by
 have dg:decide (Ar' a b r)=true:=dT_ hg
 have d1:decide (((n:Nat):Int)>200)=false:=dF_ (by omega)
 have d2:decide (((n:Nat):Int)<2)=false:=dF_ (by omega)
 have d3:decide (M4<0)=false:=dF_ (fun h=>absurd (DH.2 h) (by rw [es];exact Rat.not_lt.2 hs.1))
 obtain ⟨o,eo⟩:=eY (((1:Int):Rat):Rat)
 obtain ⟨c9,e9⟩:=eY (cmpQ s o:Int)
 have d4:decide (c9≥0)=true:=dT_ (by rw [←e9,←eo];exact Int.not_lt.1 (fun h=>absurd hs.2 (Rat.not_le.2 (cmpQ_lt0.1 h))))
 have ss:Aa' s≤20:=AN' b4.1 b4.2 es
 have so:Aa' o≤3:=by rw [←eo];decide
 replace eo:=hid eo
 replace e9:=hid e9
 replace hP:=hid hP
 replace hp:=hid hp
 replace hX:=hid hX
 replace em:=hid em
 replace es:=hid es
 replace hl:=hid hl
 replace hok:=hid hok
 replace hn:=hid hn
 replace hT:=hid hT
 replace hPo:=hid hPo
 replace dg:=hid dg
 obtain ⟨p0,p1,p2,p3,p4,p5,p6,p7,p8⟩:=AY hP.out
 obtain ⟨x0,x1,x2,x3⟩:w.cell? ⟨px,0,none⟩=some (.int .i32 M3)∧w.cell? ⟨px,1,none⟩=some (.int .u8 ((D3:Nat):Int))∧w.cell? ⟨px,2,none⟩=some (.int .i32 M4)∧w.cell? ⟨px,3,none⟩=some (.int .u8 ((D4:Nat):Int)):=⟨cR _ _ 0 _ _ _ hX.out,cR _ _ 1 _ _ _ hX.out,cR _ _ 2 _ _ _ hX.out,cR _ _ 3 _ _ _ hX.out⟩
 have lX:=Al' hX.out
 show Code.wp _ (Code.seq _ _) _ _ _
 have HX:=hid (BR hp.out (nT sa (by omega)) (nT sb (by omega)) dg.out)
 go_wp2_with fail
 refine (HX.out).mono ?_
 rintro e w1 ⟨rfl,b1⟩
 clear HX p0 p1 p2 p3 p4 p5 p6 p7 p8
 replace b1:=hid b1
 replace x0:=(b1.out.cell (p:=⟨px,0,none⟩) lX).trans x0
 replace x1:=(b1.out.cell (p:=⟨px,1,none⟩) lX).trans x1
 replace x2:=(b1.out.cell (p:=⟨px,2,none⟩) lX).trans x2
 replace x3:=(b1.out.cell (p:=⟨px,3,none⟩) lX).trans x3
 have HX:=hid (Bw' (w:=w1) b4.1 b4.2 h4 es.out)
 go_wp2_with fail
 refine (HX.out).mono ?_
 rintro e w2 ⟨v2,rfl,hv2,b2⟩
 clear HX
 have HX:=hid (BQ (w:=w2) eo.out (by omega) (by omega))
 go_wp2_with fail
 refine (HX.out).mono ?_
 rintro e w3 ⟨v3,rfl,hv3,b3_⟩
 clear HX
 have HX:=hid (A4' e9.out (hv2.keep b3_) hv3 (nT ss (by omega)) (nT so (by omega)))
 go_wp2_with fail
 refine (HX.out).mono ?_
 rintro e w4 ⟨rfl,b4_⟩
 clear HX
 have FB:=hid (bS (bS (bS b1.out b2) b3_) b4_)
 clear x0 x1 x2 x3
 clear dg
 have HX:=hid (Bq' (w:=w4) (Au' hT.out FB.out))
 go_wp2_with fail
 refine (HX.out).mono ?_
 rintro e w9 ⟨rfl,b9⟩
 clear HX
 go_wp2_with fail
 exact hPo.out _ (Ae' FB.out b9)
theorem EJ {w:World} {a b r m s:Rat} {A1 B1 A2 B2 A3 B3:Option Addr} {c1 d1 c2 d2 c3 d3:Nat} {M3 M4:Int} {D3 D4:Nat} {px pr n c:Nat} {ad:Option Addr} {l:List (Int × Nat)} {k ka ke:Int} {y0 y2 y3 y4 y6 y7 y11 y12 y13 y14 y15 y16 y17 y18 y19 y20 y21 y22 y23 y24 y25 y26 y27 y28 y29 y30 y31 y32 y33 y34 y35 y36 y37 y38 y39 y40 y41 y42 y43 y44 y45 y46 y47 y48 y49 y50 y51 y52 y53 y54 y55 y56 y57 y58 y59 y60 y61 y62 y63 y64 y65 y66 y67 y68 y69 y70 y71 y72 y73 y74 y75 y76 y77 y78 y79 y80 y81 y82 y83 y84 y85 y86 y87 y88 y89 y90 y91 y92 y93 y94 y95 y96 y97 y98 y99 y100 y101 y102 y103 y104 y105 y106 y107 y108 y109 y110 y111 y112:Value} {Po:Ending→World→Prop} (hP:w.heap[pr]?=some (.cells #[.bool (decide (a.num<0)),.slice A1 (len a.num.natAbs) c1,.slice B1 (len a.den) d1,.bool (decide (b.num<0)),.slice A2 (len b.num.natAbs) c2,.slice B2 (len b.den) d2,.bool (decide (r.num<0)),.slice A3 (len r.num.natAbs) c3,.slice B3 (len r.den) d3] 47 (0,0))) (hp:AX w (.agg #[.bool (decide (a.num<0)),.slice A1 (len a.num.natAbs) c1,.slice B1 (len a.den) d1,.bool (decide (b.num<0)),.slice A2 (len b.num.natAbs) c2,.slice B2 (len b.den) d2,.bool (decide (r.num<0)),.slice A3 (len r.num.natAbs) c3,.slice B3 (len r.den) d3]) a b r) (hX:w.heap[px]?=some (.cells #[.int .i32 M3,.int .u8 ((D3:Nat):Int),.int .i32 M4,.int .u8 ((D4:Nat):Int)] 30 (0,0))) (b3 : -2147483648≤M3∧M3≤2147483647) (b4 : -2147483648≤M4∧M4≤2147483647) (h3:D3≤255) (h4:D4≤255) (em:As M3 D3=m) (es:As M4 D4=s) (hl:AQ w ad l) (hok:Bg l) (hn:n=l.length) (sa:Aa' a≤100) (sb:Aa' b≤100) (sr:Aa' r≤100) (hT:TabAt 0 Lib.deBruijn64tab w) {nn:Nat} {x z:Rat} (hs0:0≤s) (hs1:s<1) (hn2:2≤n∧n≤200) (hg:Ar' a b r) (hz:(Aw' l)[nn]?=some z) (hx0:(Aw' l)[0]?=some x) (hn1:n=nn+1) (hnn:nn≤64) (sx:Aa' x≤20) (sz:Aa' z≤20) {lo hi:Rat} (hE:(k=0∧ka=0∧ke=42)∨(1≤k∧k≤3∧ka=k∧ke=0)) (el:leastOf ((z - m - r) / (x - m - r)) [(z - m - r) / (x - m+r),(z - m+r) / (x - m - r),(z - m+r) / (x - m+r)]=lo) (eh:greatestOf ((z - m - r) / (x - m - r)) [(z - m - r) / (x - m+r),(z - m+r) / (x - m - r),(z - m+r) / (x - m+r)]=hi) (hk:(if x - m - r≤0∧0≤x - m+r then 0 else if (1 - s)^nn≤lo then 1 else if hi<(1 - s)^nn then 2 else 3)=k) (hPo:∀ w',Below w.heap.size w w'→Po (.returned (.bool true)) w') :
   (codeAt 4 Tryz.f3).wp Tryz.prog (bodyPost Tryz.prog Tryz.f3 Po) { tmps:=#[y0,.slice ad n c,y2,y3,y4,.pointer (some ⟨px,0,none⟩),y6,y7,.pointer (some ⟨pr,0,none⟩),.int .u8 ka,.int .i64 ke,y11,y12,y13,y14,y15,y16,y17,y18,y19,y20,y21,y22,y23,y24,y25,y26,y27,y28,y29,y30,y31,y32,y33,y34,y35,y36,y37,y38,y39,y40,y41,y42,y43,y44,y45,y46,y47,y48,y49,y50,y51,y52,y53,y54,y55,y56,y57,y58,y59,y60,y61,y62,y63,y64,y65,y66,y67,y68,y69,y70,y71,y72,y73,y74,y75,y76,y77,y78,y79,y80,y81,y82,y83,y84,y85,y86,y87,y88,y89,y90,y91,y92,y93,y94,y95,y96,y97,y98,y99,y100,y101,y102,y103,y104,y105,y106,y107,y108,y109,y110,y111,y112],defers:=[] } w:=by
 have hn40:nn≤64:=hnn
 replace hP:=hid hP
 replace hp:=hid hp
 replace hX:=hid hX
 replace em:=hid em
 replace es:=hid es
 replace hl:=hid hl
 replace hok:=hid hok
 replace hn:=hid hn
 replace hT:=hid hT
 replace hPo:=hid hPo
 replace hz:=hid hz
 replace hx0:=hid hx0
 replace hn1:=hid hn1
 replace sx:=hid sx
 replace sz:=hid sz
 replace el:=hid el
 replace eh:=hid eh
 replace hk:=hid hk
 have ss:=AN' b4.1 b4.2 es.out
 have sm:=AN' b3.1 b3.2 em.out
 obtain ⟨p0,p1,p2,p3,p4,p5,p6,p7,p8⟩:=AY hP.out
 obtain ⟨x0,x1,x2,x3⟩:w.cell? ⟨px,0,none⟩=some (.int .i32 M3)∧w.cell? ⟨px,1,none⟩=some (.int .u8 ((D3:Nat):Int))∧w.cell? ⟨px,2,none⟩=some (.int .i32 M4)∧w.cell? ⟨px,3,none⟩=some (.int .u8 ((D4:Nat):Int)):=⟨cR _ _ 0 _ _ _ hX.out,cR _ _ 1 _ _ _ hX.out,cR _ _ 2 _ _ _ hX.out,cR _ _ 3 _ _ _ hX.out⟩
 have lX:=Al' hX.out
 have lP:=Al' hP.out
 have dg:decide (Ar' a b r)=true:=dT_ hg
 have d1:decide (((n:Nat):Int)>200)=false:=dF_ (by have:=hn1.out;omega)
 have d2:decide (((n:Nat):Int)<2)=false:=dF_ (by have:=hn1.out;omega)
 have d3:decide (M4<0)=false:=dF_ (fun h=>absurd (DH.2 h) (by rw [es.out];exact Rat.not_lt.2 hs0))
 obtain ⟨o,eo⟩:=eY (((1:Int):Rat):Rat)
 obtain ⟨c9,e9⟩:=eY (cmpQ s o:Int)
 have d4:decide (c9≥0)=false:=dF_ (by rw [←e9,←eo];have:cmpQ s ((1:Int):Rat)<0:=cmpQ_lt0.2 hs1;omega)
 have so:Aa' o≤3:=by rw [←eo];decide
 replace eo:=hid eo
 replace e9:=hid e9
 show Code.wp _ (Code.seq _ _) _ _ _
 have HX:=hid (BR hp.out (nT sa (by omega)) (nT sb (by omega)) dg)
 clear dg
 go_wp2_with fail
 refine (HX.out).mono ?_
 rintro e w1 ⟨rfl,b1⟩
 clear HX
 replace b1:=hid b1
 replace x0:=(b1.out.cell (p:=⟨px,0,none⟩) lX).trans x0
 replace x1:=(b1.out.cell (p:=⟨px,1,none⟩) lX).trans x1
 replace x2:=(b1.out.cell (p:=⟨px,2,none⟩) lX).trans x2
 replace x3:=(b1.out.cell (p:=⟨px,3,none⟩) lX).trans x3
 have HX:=hid (Bw' (w:=w1) b4.1 b4.2 h4 es.out)
 go_wp2_with fail
 refine (HX.out).mono ?_
 rintro e w2 ⟨v2,rfl,hv2,b2⟩
 clear HX
 have HX:=hid (BQ (w:=w2) eo.out (by omega) (by omega))
 go_wp2_with fail
 refine (HX.out).mono ?_
 rintro e w3 ⟨v3,rfl,hv3,b3_⟩
 clear HX
 have HX:=hid (A4' e9.out (hv2.keep b3_) hv3 (nT ss (by omega)) (nT so (by omega)))
 go_wp2_with fail
 refine (HX.out).mono ?_
 rintro e w4 ⟨rfl,b4_⟩
 clear HX
 have BB:=hid (bS (bS b2 b3_) b4_)
 have B4:=hid (bS b1.out BB.out)
 replace x0:=(BB.out.cell (p:=⟨px,0,none⟩) (ltl lX b1.out.size)).trans x0
 replace x1:=(BB.out.cell (p:=⟨px,1,none⟩) (ltl lX b1.out.size)).trans x1
 replace x2:=(BB.out.cell (p:=⟨px,2,none⟩) (ltl lX b1.out.size)).trans x2
 replace x3:=(BB.out.cell (p:=⟨px,3,none⟩) (ltl lX b1.out.size)).trans x3
 replace p0:=(B4.out.cell (p:=⟨pr,0,none⟩) lP).trans p0
 replace p1:=(B4.out.cell (p:=⟨pr,1,none⟩) lP).trans p1
 replace p2:=(B4.out.cell (p:=⟨pr,2,none⟩) lP).trans p2
 replace p3:=(B4.out.cell (p:=⟨pr,3,none⟩) lP).trans p3
 replace p4:=(B4.out.cell (p:=⟨pr,4,none⟩) lP).trans p4
 replace p5:=(B4.out.cell (p:=⟨pr,5,none⟩) lP).trans p5
 replace p6:=(B4.out.cell (p:=⟨pr,6,none⟩) lP).trans p6
 replace p7:=(B4.out.cell (p:=⟨pr,7,none⟩) lP).trans p7
 replace p8:=(B4.out.cell (p:=⟨pr,8,none⟩) lP).trans p8
 replace lX:=ltl lX B4.out.size
 replace lP:=ltl lP B4.out.size
 clear d1 d2
 go_upto_region 16 with fail
 clear d3 d4
 go_wp2_with fail
 refine wp_region_held_drew (S:=(fun w'=>w'.cell? ⟨pr,0,none⟩=w4.cell? ⟨pr,0,none⟩∧w'.cell? ⟨pr,1,none⟩=w4.cell? ⟨pr,1,none⟩∧w'.cell? ⟨pr,2,none⟩=w4.cell? ⟨pr,2,none⟩∧w'.cell? ⟨pr,3,none⟩=w4.cell? ⟨pr,3,none⟩∧w'.cell? ⟨pr,4,none⟩=w4.cell? ⟨pr,4,none⟩∧w'.cell? ⟨pr,5,none⟩=w4.cell? ⟨pr,5,none⟩∧w'.cell? ⟨pr,6,none⟩=w4.cell? ⟨pr,6,none⟩∧w'.cell? ⟨pr,7,none⟩=w4.cell? ⟨pr,7,none⟩∧w'.cell? ⟨pr,8,none⟩=w4.cell? ⟨pr,8,none⟩∧w'.cell? ⟨px,0,none⟩=w4.cell? ⟨px,0,none⟩∧w'.cell? ⟨px,1,none⟩=w4.cell? ⟨px,1,none⟩∧w'.cell? ⟨px,2,none⟩=w4.cell? ⟨px,2,none⟩∧w'.cell? ⟨px,3,none⟩=w4.cell? ⟨px,3,none⟩)) (by kernel_rfl) ?_ (fun hHeld=>?_)
 · (try dsimp only)
   exact ⟨rfl,rfl,rfl,rfl,rfl,rfl,rfl,rfl,rfl,rfl,rfl,rfl,rfl⟩
 obtain ⟨wd,hwd⟩:=eX w4.drew
 have bd:Hid (Below w4.heap.size w4 wd):=hid (by rw [hwd];exact ⟨rfl,rfl,rfl,nL _,fun _ _=>rfl⟩)
 rw [←hwd] at hHeld ⊢
 clear hwd
 have hSof:Hid (∀ z:World,Below wd.heap.size wd z→z.cell? ⟨pr,0,none⟩=w4.cell? ⟨pr,0,none⟩∧z.cell? ⟨pr,1,none⟩=w4.cell? ⟨pr,1,none⟩∧z.cell? ⟨pr,2,none⟩=w4.cell? ⟨pr,2,none⟩∧z.cell? ⟨pr,3,none⟩=w4.cell? ⟨pr,3,none⟩∧z.cell? ⟨pr,4,none⟩=w4.cell? ⟨pr,4,none⟩∧z.cell? ⟨pr,5,none⟩=w4.cell? ⟨pr,5,none⟩∧z.cell? ⟨pr,6,none⟩=w4.cell? ⟨pr,6,none⟩∧z.cell? ⟨pr,7,none⟩=w4.cell? ⟨pr,7,none⟩∧z.cell? ⟨pr,8,none⟩=w4.cell? ⟨pr,8,none⟩∧z.cell? ⟨px,0,none⟩=w4.cell? ⟨px,0,none⟩∧z.cell? ⟨px,1,none⟩=w4.cell? ⟨px,1,none⟩∧z.cell? ⟨px,2,none⟩=w4.cell? ⟨px,2,none⟩∧z.cell? ⟨px,3,none⟩=w4.cell? ⟨px,3,none⟩):=hid (fun z hz=>by
   have k:=bS bd.out hz
   exact ⟨k.cell (p:=⟨pr,0,none⟩) lP,k.cell (p:=⟨pr,1,none⟩) lP,k.cell (p:=⟨pr,2,none⟩) lP,k.cell (p:=⟨pr,3,none⟩) lP,k.cell (p:=⟨pr,4,none⟩) lP,k.cell (p:=⟨pr,5,none⟩) lP,k.cell (p:=⟨pr,6,none⟩) lP,k.cell (p:=⟨pr,7,none⟩) lP,k.cell (p:=⟨pr,8,none⟩) lP,k.cell (p:=⟨px,0,none⟩) lX,k.cell (p:=⟨px,1,none⟩) lX,k.cell (p:=⟨px,2,none⟩) lX,k.cell (p:=⟨px,3,none⟩) lX⟩)
 refine tk (i:=0) (h:=?_)
 try simp only [Act.put,lt,ly,lu]
 refine tk (i:=1) (h:=?_)
 try simp only [Act.put,lt,ly,lu]
 refine tk (i:=3) (h:=?_)
 try simp only [Act.put,lt,ly,lu]
 refine tk (i:=4) (h:=?_)
 try simp only [Act.put,lt,ly,lu]
 refine tk (i:=6) (h:=?_)
 try simp only [Act.put,lt,ly,lu]
 refine tk (i:=7) (h:=?_)
 try simp only [Act.put,lt,ly,lu]
 clear hHeld
 refine AK (base:=1) [jc 2 84 [] (fun V U=>∃ g cap,V=.slice (some ⟨g,0,none⟩) n cap∧A3' U g 0 (Aw' l)) [],jc 5 87 [] (fun V U=>Ah U V m) [],jc 8 90 [] (fun V U=>Ah U V s) [],jf 9 91 [2,5,8] (.int .u8 k) []] (by kernel_rfl) hSof.out ⟨fun _ _=>⟨rfl,rfl⟩,fun _ _=>⟨rfl,rfl⟩,fun _ _=>⟨rfl,rfl⟩,fun _ _=>⟨rfl,rfl⟩,trivial⟩ ⟨fun _ _ _ _ ⟨g,cap,h1,h2⟩ hb=>⟨g,cap,h1,h2.keep hb⟩,fun _ _ _ _ h hb=>h.keep hb,fun _ _ _ _ h hb=>h.keep hb,fun _ _ _ _ h _=>h,trivial⟩ ⟨trivial,trivial,trivial,trivial,trivial⟩ ⟨?_,?_,?_,?_,trivial⟩ ?_
 · refine Aj' (h:=fun lv lb U HB hd K hK=>?_)
   simp only [W,Ae,Af',zfa,zfb,zfc,zfd,zfe,Job.ws,jc,jt,jf,ja,jl,zff,zfg,Ag',Act.put,lt,ly,lu]
   go_simp
   go_at_call 15
   refine (IW' (hl.out.keep (bS B4.out (bS bd.out HB))) hok.out hn.out (by have:=hn1.out;omega)).mono ?_
   rintro eK u9 ⟨V,rfl,kk,b9⟩
   exact hK.out V 0 u9 _ b9 nofun kk (by kernel_rfl)
 · refine Aj' (h:=fun lv lb U HB hd K hK=>?_)
   simp only [W,Ae,Af',zfa,zfb,zfc,zfd,zfe,Job.ws,jc,jt,jf,ja,jl,zff,zfg,Ag',Act.put,lt,ly,lu]
   go_simp
   go_at_call 12
   refine (Bw' (w:=U) b3.1 b3.2 h3 em.out).mono ?_
   rintro eK u9 ⟨V,rfl,kk,b9⟩
   exact hK.out V 0 u9 _ b9 nofun kk (by kernel_rfl)
 · refine Aj' (h:=fun lv lb U HB hd K hK=>?_)
   simp only [W,Ae,Af',zfa,zfb,zfc,zfd,zfe,Job.ws,jc,jt,jf,ja,jl,zff,zfg,Ag',Act.put,lt,ly,lu]
   go_simp
   go_at_call 12
   refine (Bw' (w:=U) b4.1 b4.2 h4 es.out).mono ?_
   rintro eK u9 ⟨V,rfl,kk,b9⟩
   exact hK.out V 0 u9 _ b9 nofun kk (by kernel_rfl)
 · refine Aj' (h:=fun lv lb U HB hd K hK=>?_)
   have k2:∃ g cap,(lv 2)=.slice (some ⟨g,0,none⟩) n cap∧A3' U g 0 (Aw' l):=hd.1 rfl
   have k5:Ah U (lv 5) m:=hd.2.1 rfl
   have k8:Ah U (lv 8) s:=hd.2.2.1 rfl
   simp only [W,Ae,Af',zfa,zfb,zfc,zfd,zfe,Job.ws,jc,jt,jf,ja,jl,zff,zfg,Ag',Act.put,lt,ly,lu]
   obtain ⟨g2,cap2,e2,q2⟩:=k2
   simp only [e2]
   go_simp
   go_at_call 14
   refine (Gw' (hp.out.keep (bS B4.out (bS bd.out HB))) k5 k8 q2 hz.out hx0.out hn1.out hn40 (nT sx.out (by omega)) (nT sz.out (by omega)) (nT sm (by omega)) (nT sr (by omega)) (nT ss (by omega)) hg.2.2 el.out eh.out hk.out).mono ?_
   rintro eK u9 ⟨rfl,b9⟩
   exact hK.out undef 0 u9 _ b9 nofun trivial (by simp only [W,Ae,Af',zfa,zfb,zfc,zfd,zfe,Job.ws,jc,jt,jf,ja,jl,zff,zfg,Ag',Act.put,lt,ly,lu];simp only [e2] <;> kernel_rfl)
 intro lv lb u HB hF hD
 have k2:=hF.1.1
 have k5:=hF.2.1.1
 have k8:=hF.2.2.1.1
 clear hF hD
 simp only [W,Ae,Af',zfa,zfb,zfc,zfd,zfe,Job.ws,jc,jt,jf,ja,jl,zff,zfg,Ag',Act.put,lt,ly,lu]
 replace k2:∃ g cap,(lv 2)=.slice (some ⟨g,0,none⟩) n cap∧A3' u g 0 (Aw' l):=k2
 replace k5:Ah u (lv 5) m:=k5
 replace k8:Ah u (lv 8) s:=k8
 generalize lv 2=v2 at *
 generalize lv 5=v5 at *
 generalize lv 8=v8 at *
 clear lv lb
 have hHeld:=hSof.out _ HB
 refine tk (i:=10) (h:=?_)
 try simp only [Act.put,lt,ly,lu]
 refine wpAnyH_done (by kernel_rfl) ?_ _
 clear hHeld hSof
 have FB:=hid (bS B4.out (bS bd.out HB))
 have HX:=hid (Bq' (w:=u) (Au' hT.out FB.out))
 clear p0 p1 p2 p3 p4 p5 p6 p7 p8 x0 x1 x2 x3
 rcases hE with ⟨rfl,rfl,rfl⟩ | ⟨hk1,hk2,rfl,rfl⟩
 · go_wp2_with fail
   refine (HX.out).mono ?_
   rintro e w1 ⟨rfl,b1⟩
   clear HX
   go_wp2_with fail
   exact hPo.out _ (Ae' FB.out b1)
 · have dk:(ka==0)=false:=by rw [beq_eq_false_iff_ne];omega
   have dkk:(ka==ka)=true:=by simp
   go_wp2_with fail
   refine (HX.out).mono ?_
   rintro e w1 ⟨rfl,b1⟩
   clear HX
   go_wp2_with fail
   exact hPo.out _ (Ae' FB.out b1)
end Go.Proofs.YtflopjfnppolgaaGreatDoor.Rf
