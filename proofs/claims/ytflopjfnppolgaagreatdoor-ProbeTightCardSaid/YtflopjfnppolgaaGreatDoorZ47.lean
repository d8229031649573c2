/-
  Contracts of the functions that the law calls, for every input (Rkc).
-/
import Derived.Test.YtflopjfnppolgaaGreatDoorZ00
import Derived.Test.YtflopjfnppolgaaGreatDoorZ46
import Derived.Test.YtflopjfnppolgaaGreatDoorZ35
set_option linter.all false
set_option maxRecDepth 100000
set_option maxHeartbeats 40000000
namespace Go.Proofs.YtflopjfnppolgaaGreatDoor.Rf
open Lib (hid)
open Go.RowKit
open Rx
open Vx (Aa' Ai Ai')
open List renaming flatMap_cons → zfa, flatMap_nil → zfb, append_nil → zfc, nil_append → zfd, cons_append → zfe, foldl_cons → zff, foldl_nil → zfg, getElem?_toArray → lg, getElem?_cons_zero → lz, getElem?_cons_succ → ls, setIfInBounds_toArray → lt, set_cons_zero → ly, set_cons_succ → lu
theorem Id {p q a b r z v:Rat} (e1:((4:Int):Rat)=p) (e2:((6:Int):Rat)=q) (ea:mkRat 1 2=a) (eb:mkRat 3 4=b) (er:0=r) (ez:mkRat 20 3=z) (ev:(8:Rat)=v):(CB Bo' (p - r) (p+r) (q - r) (q+r) a b=z∧CB' Bo' (p - r) (p+r) (q - r) (q+r) a b=v)∧Aa' p≤9∧Aa' q≤9:=by
 subst e1 e2 ea eb er ez ev
 decide +kernel
theorem IJ {p q a:Rat} (e1:((8:Int):Rat)=p) (e2:((1:Int):Rat)=q) (ea:mkRat 1 2=a):(AP p a 3≤q∧q<AP p a 0∧q<AP p a 1∧q<AP p a 2)∧(0≤p∧0≤q)∧Aa' p≤9∧Aa' q≤9:=by
 subst e1 e2 ea
 decide +kernel
theorem Hi' {p a b x y:Rat} (e1:((8:Int):Rat)=p) (ea:mkRat 1 2=a) (eb:mkRat 3 4=b) (ex:(6:Rat)=x) (ey:mkRat 15 2=y):Bp' a b (0,0) [(p,p),(p,p)] 2=(x,y)∧(∀ k:Fin 3,Aa' (Bp' a b (0,0) [(p,p),(p,p)] k.val).1≤99∧Aa' (Bp' a b (0,0) [(p,p),(p,p)] k.val).2≤99)∧Aa' p≤9:=by
 subst e1 ea eb ex ey
 decide +kernel
theorem Fo' {w:World} {P:Nat} {a b r:Rat} {A1 B1 A2 B2 A3 B3:Option Addr} {c1 d1 c2 d2 c3 d3:Nat} {x y:Rat} {g:Nat} {A4 B4 A5 B5:Option Addr} {c4 d4 c5 d5:Nat} {y0 y2 y7 y8 y9 y10 y11 y12 y13 y14 y15 y16 y17 y18 y19 y20 y21 y22 y23 y24 y25 y26 y27 y28 y29 y30 y31 y32 y33 y34 y35 y36 y37 y38 y39 y40 y41 y42 y43 y44 y45 y46 y47 y48 y49 y50 y51 y52 y53 y54 y55 y56 y57 y58 y59 y60 y61 y62 y63 y64 y65 y66 y67 y68 y69 y70 y71 y72 y73 y74 y75 y76 y77 y78 y79 y80 y81 y82 y83 y84 y85 y86 y87 y88 y89 y90 y91 y92 y93 y94 y95 y96 y97 y98 y99 y100 y101 y102 y103 y104 y105 y106 y107 y108 y109 y110 y111 y112 y113:Value} {Po:Ending→World→Prop} (hP:w.heap[P]?=some (.cells #[.bool (decide (a.num<0)),.slice A1 (Vx.len a.num.natAbs) c1,.slice B1 (Vx.len (below a.den)) d1,.bool (decide (b.num<0)),.slice A2 (Vx.len b.num.natAbs) c2,.slice B2 (Vx.len (below b.den)) d2,.bool (decide (r.num<0)),.slice A3 (Vx.len r.num.natAbs) c3,.slice B3 (Vx.len (below r.den)) d3] 39 (0,0))) (hp:AA' w (.agg #[.bool (decide (a.num<0)),.slice A1 (Vx.len a.num.natAbs) c1,.slice B1 (Vx.len (below a.den)) d1,.bool (decide (b.num<0)),.slice A2 (Vx.len b.num.natAbs) c2,.slice B2 (Vx.len (below b.den)) d2,.bool (decide (r.num<0)),.slice A3 (Vx.len r.num.natAbs) c3,.slice B3 (Vx.len (below r.den)) d3]) a b r) (ea:mkRat 1 2=a) (eb:mkRat 3 4=b) (er:0=r) (hf:w.cell? ⟨g,6,none⟩=some (.bool (decide (x.num<0)))∧w.cell? ⟨g,7,none⟩=some (.slice A4 (Vx.len x.num.natAbs) c4)∧w.cell? ⟨g,8,none⟩=some (.slice B4 (Vx.len (below x.den)) d4)∧w.cell? ⟨g,9,none⟩=some (.bool (decide (y.num<0)))∧w.cell? ⟨g,10,none⟩=some (.slice A5 (Vx.len y.num.natAbs) c5)∧w.cell? ⟨g,11,none⟩=some (.slice B5 (Vx.len (below y.den)) d5)) (hfb:Ao' w (.agg #[.bool (decide (x.num<0)),.slice A4 (Vx.len x.num.natAbs) c4,.slice B4 (Vx.len (below x.den)) d4,.bool (decide (y.num<0)),.slice A5 (Vx.len y.num.natAbs) c5,.slice B5 (Vx.len (below y.den)) d5]) x y) (ex:(6:Rat)=x) (ey:mkRat 15 2=y) (hT:TabAt 0 Lib.deBruijn64tab w) (hPo:∀ w',Below w.heap.size w w'→Po (.returned (.bool true)) w') :
   (codeAt 4 Tryz.f5).wp Tryz.prog (bodyPost Tryz.prog Tryz.f5 Po) { tmps:=#[y0,.pointer (some ⟨P,0,none⟩),y2,.slice (some ⟨g,0,none⟩) 2 2,.int .i64 0,.int .i64 3,.int .i64 0,y7,y8,y9,y10,y11,y12,y13,y14,y15,y16,y17,y18,y19,y20,y21,y22,y23,y24,y25,y26,y27,y28,y29,y30,y31,y32,y33,y34,y35,y36,y37,y38,y39,y40,y41,y42,y43,y44,y45,y46,y47,y48,y49,y50,y51,y52,y53,y54,y55,y56,y57,y58,y59,y60,y61,y62,y63,y64,y65,y66,y67,y68,y69,y70,y71,y72,y73,y74,y75,y76,y77,y78,y79,y80,y81,y82,y83,y84,y85,y86,y87,y88,y89,y90,y91,y92,y93,y94,y95,y96,y97,y98,y99,y100,y101,y102,y103,y104,y105,y106,y107,y108,y109,y110,y111,y112,y113],defers:=[] } w:=by
 obtain ⟨m,em⟩:=eY (((4:Int):Rat):Rat)
 obtain ⟨n,en⟩:=eY (((6:Int):Rat):Rat)
 obtain ⟨z,ez⟩:=eY (mkRat 20 3:Rat)
 obtain ⟨v,ev⟩:=eY ((8:Rat):Rat)
 have KP:=hid (Dp' ea eb er)
 have KQ:=hid (Id em en ea eb er ez ev)
 obtain ⟨f0,f1,f2,f3,f4,f5⟩:=hf
 have hgl:=bL _ _ f0
 have hPl:=Al' hP
 obtain ⟨z0,z1,z2,z3,z4,z5,z6,z7,z8⟩:=AY hP
 have hr0:0≤r:=by rw [←er];exact Rat.le_refl
 replace ex:=hid ex
 replace ey:=hid ey
 replace ez:=hid ez
 replace ev:=hid ev
 replace em:=hid em
 replace en:=hid en
 replace ea:=hid ea
 replace eb:=hid eb
 replace er:=hid er
 replace hP:=hid hP
 replace hp:=hid hp
 replace hPo:=hid hPo
 replace hT:=hid hT
 replace hfb:=hid hfb
 replace hr0:=hid hr0
 show Code.wp _ (Code.seq _ _) _ _ _
 refine wp_seq_k ?_
 intro G hG
 replace hG:=hid hG
 go_wp2_with fail
 refine wp_region_held_drew (S:=(fun w'=>w'.cell? ⟨P,0,none⟩=w.cell? ⟨P,0,none⟩∧w'.cell? ⟨P,1,none⟩=w.cell? ⟨P,1,none⟩∧w'.cell? ⟨P,2,none⟩=w.cell? ⟨P,2,none⟩∧w'.cell? ⟨P,3,none⟩=w.cell? ⟨P,3,none⟩∧w'.cell? ⟨P,4,none⟩=w.cell? ⟨P,4,none⟩∧w'.cell? ⟨P,5,none⟩=w.cell? ⟨P,5,none⟩∧w'.cell? ⟨P,6,none⟩=w.cell? ⟨P,6,none⟩∧w'.cell? ⟨P,7,none⟩=w.cell? ⟨P,7,none⟩∧w'.cell? ⟨P,8,none⟩=w.cell? ⟨P,8,none⟩)) (by kernel_rfl) ?_ (fun hHeld=>?_)
 · (try dsimp only)
   exact ⟨rfl,rfl,rfl,rfl,rfl,rfl,rfl,rfl,rfl⟩
 obtain ⟨wd,hwd⟩:=eX w.drew
 have bd:Hid (Below w.heap.size w wd):=hid (by rw [hwd];exact ⟨rfl,rfl,rfl,nL _,fun _ _=>rfl⟩)
 rw [←hwd] at hHeld ⊢
 clear hwd
 have hSof:Hid (∀ z:World,Below wd.heap.size wd z→z.cell? ⟨P,0,none⟩=w.cell? ⟨P,0,none⟩∧z.cell? ⟨P,1,none⟩=w.cell? ⟨P,1,none⟩∧z.cell? ⟨P,2,none⟩=w.cell? ⟨P,2,none⟩∧z.cell? ⟨P,3,none⟩=w.cell? ⟨P,3,none⟩∧z.cell? ⟨P,4,none⟩=w.cell? ⟨P,4,none⟩∧z.cell? ⟨P,5,none⟩=w.cell? ⟨P,5,none⟩∧z.cell? ⟨P,6,none⟩=w.cell? ⟨P,6,none⟩∧z.cell? ⟨P,7,none⟩=w.cell? ⟨P,7,none⟩∧z.cell? ⟨P,8,none⟩=w.cell? ⟨P,8,none⟩):=hid (fun z hz=>by
   have k:=bS bd.out hz
   exact ⟨k.cell (p:=⟨P,0,none⟩) hPl,k.cell (p:=⟨P,1,none⟩) hPl,k.cell (p:=⟨P,2,none⟩) hPl,k.cell (p:=⟨P,3,none⟩) hPl,k.cell (p:=⟨P,4,none⟩) hPl,k.cell (p:=⟨P,5,none⟩) hPl,k.cell (p:=⟨P,6,none⟩) hPl,k.cell (p:=⟨P,7,none⟩) hPl,k.cell (p:=⟨P,8,none⟩) hPl⟩)
 refine tk (i:=0) (h:=?_)
 try simp only [Act.put,lt,ly,lu]
 clear hHeld
 refine AK (base:=2) [jc 1 40 [] (fun V U=>Ac' U V m) [],jc 2 41 [] (fun V U=>Ac' U V n) [],jl 3 42 2 [1,2] (fun V U=>AG U V 0 [m,n]),jt 4 43 [3] (.int .i64 0) (fun V U=>Ao' U V z v) [⟨5,38,fun r b=>.tuple #[r 4,.int .i64 0]⟩,⟨6,44,fun r b=>r 4⟩,⟨7,45,fun r b=>.int .i64 0⟩],ja 8 7 (.cells #[.bool false,.slice none 0 0,.slice none 0 0,.bool false,.slice none 0 0,.slice none 0 0] 37)] (by kernel_rfl) hSof.out ⟨fun _ _=>⟨rfl,rfl⟩,fun _ _=>⟨rfl,rfl⟩,fun _ _=>⟨rfl,rfl⟩,fun _ _=>⟨rfl,rfl⟩,fun _ _=>⟨rfl,rfl⟩,trivial⟩ ⟨fun _ _ _ _ h hb=>h.keep hb,fun _ _ _ _ h hb=>h.keep hb,fun _ _ _ _ h hb=>h.keep hb,fun _ _ _ _ h hb=>h.keep hb,B4' _ _ _,trivial⟩ ⟨trivial,trivial,trivial,⟨?_,?_,?_,trivial⟩,trivial,trivial⟩ ⟨?_,?_,?_,?_,?_,trivial⟩ ?_
 · refine AD' (h:=fun r b=>⟨by rfl,fun w0=>?_⟩)
   simp only [W,Ae,Af',zfa,zfb,zfc,zfd,zfe,Job.ws,jc,jt,jf,ja,jl,zff,zfg,Ag',Act.put,lt,ly,lu]
   go_simp
 · refine AD' (h:=fun r b=>⟨by rfl,fun w0=>?_⟩)
   simp only [W,Ae,Af',zfa,zfb,zfc,zfd,zfe,Job.ws,jc,jt,jf,ja,jl,zff,zfg,Ag',Act.put,lt,ly,lu]
   go_simp
 · refine AD' (h:=fun r b=>⟨by rfl,fun w0=>?_⟩)
   simp only [W,Ae,Af',zfa,zfb,zfc,zfd,zfe,Job.ws,jc,jt,jf,ja,jl,zff,zfg,Ag',Act.put,lt,ly,lu]
   go_simp
 · refine Aj' (h:=fun r b U HB hd K hK=>?_)
   simp only [W,Ae,Af',zfa,zfb,zfc,zfd,zfe,Job.ws,jc,jt,jf,ja,jl,zff,zfg,Ag',Act.put,lt,ly,lu]
   go_simp
   go_at_call 18
   refine (AE' (w:=U) em.out (by omega) (by omega)).mono ?_
   rintro eK u9 ⟨V,rfl,kk,b9⟩
   exact hK.out V 0 u9 _ b9 nofun kk (by kernel_rfl)
 · refine Aj' (h:=fun r b U HB hd K hK=>?_)
   simp only [W,Ae,Af',zfa,zfb,zfc,zfd,zfe,Job.ws,jc,jt,jf,ja,jl,zff,zfg,Ag',Act.put,lt,ly,lu]
   go_simp
   go_at_call 18
   refine (AE' (w:=U) en.out (by omega) (by omega)).mono ?_
   rintro eK u9 ⟨V,rfl,kk,b9⟩
   exact hK.out V 0 u9 _ b9 nofun kk (by kernel_rfl)
 · refine Aj' (h:=fun r b U HB hd K hK=>?_)
   have k1:Ac' U (r 1) m:=hd.1 rfl
   have k2:Ac' U (r 2) n:=hd.2.1 rfl
   obtain ⟨X1,x1,Y1,y1,e1,-,-⟩:=k1.opened
   rw [e1] at k1
   obtain ⟨X2,x2,Y2,y2,e2,-,-⟩:=k2.opened
   rw [e2] at k2
   simp only [W,Ae,Af',zfa,zfb,zfc,zfd,zfe,Job.ws,jc,jt,jf,ja,jl,zff,zfg,Ag',Act.put,lt,ly,lu]
   simp only [e1,e2]
   go_simp
   have b9:=Am' U (.cells #[.bool (decide (m.num<0)),.slice X1 (Vx.len m.num.natAbs) x1,.slice Y1 (Vx.len (below m.den)) y1,.bool (decide (n.num<0)),.slice X2 (Vx.len n.num.natAbs) x2,.slice Y2 (Vx.len (below n.den)) y2] 35)
   exact hK.out undef U.heap.size _ _ b9 (fun _=>⟨rfl,by show _<(U.heap.push _).size;simp⟩) (EB' (hA_ U _) (k1.keep b9) (k2.keep b9)) (by simp only [W,Ae,Af',zfa,zfb,zfc,zfd,zfe,Job.ws,jc,jt,jf,ja,jl,zff,zfg,Ag',Act.put,lt,ly,lu];simp only [e1,e2] <;> kernel_rfl)
 · refine Aj' (h:=fun r b U HB hd K hK=>?_)
   have k3:AG U (b 3) 0 [m,n]:=hd.2.2.1 rfl
   simp only [W,Ae,Af',zfa,zfb,zfc,zfd,zfe,Job.ws,jc,jt,jf,ja,jl,zff,zfg,Ag',Act.put,lt,ly,lu]
   go_simp
   go_at_call 29
   refine (Fk' (hp.out.keep (bS bd.out HB)) k3 KP.out.1 (nT KQ.out.2.1 (by omega)) (nT KQ.out.2.2 (by omega)) ⟨nT KP.out.2.2 (by omega),hr0.out⟩ ⟨nT KP.out.2.1.1 (by omega),nT KP.out.2.1.2 (by omega)⟩ KQ.out.1.1 KQ.out.1.2).mono ?_
   rintro eK u9 ⟨V,rfl,kk,b9⟩
   exact hK.out V 0 u9 _ b9 nofun kk (by kernel_rfl)
 · refine Cl' (h:=fun r b U=>⟨by rfl,?_⟩)
   simp only [W,Ae,Af',zfa,zfb,zfc,zfd,zfe,Job.ws,jc,jt,jf,ja,jl,zff,zfg,Ag',Act.put,lt,ly,lu]
   go_simp
 intro r b u HB hF hD
 have k1:=hF.1.1
 have k2:=hF.2.1.1
 have k3:=hF.2.2.1.1
 have l3:=hF.2.2.1.2 rfl
 have k4:=hF.2.2.2.1.1
 have k8:=hF.2.2.2.2.1.1
 have l8:=hF.2.2.2.2.1.2 rfl
 have n3_8:b 3≠b 8:=hD 3 8 (by decide) rfl rfl
 clear hF hD
 simp only [W,Ae,Af',zfa,zfb,zfc,zfd,zfe,Job.ws,jc,jt,jf,ja,jl,zff,zfg,Ag',Act.put,lt,ly,lu]
 replace k1:Ac' u (r 1) m:=k1
 replace k2:Ac' u (r 2) n:=k2
 replace k3:AG u (b 3) 0 [m,n]:=k3
 replace l3:wd.heap.size≤b 3:=l3
 generalize b 3=b3 at *
 replace k4:Ao' u (r 4) z v:=k4
 replace k8:u.heap[b 8]?=some (.cells #[.bool false,.slice none 0 0,.slice none 0 0,.bool false,.slice none 0 0,.slice none 0 0] 37):=k8
 replace l8:wd.heap.size≤b 8:=l8
 generalize b 8=b8 at *
 generalize r 1=v1 at *
 generalize r 2=v2 at *
 generalize r 4=v4 at *
 clear r b
 obtain ⟨Aq,cq,Bq,dq,Eq,eq,Gq,gq,rfl,-,-,-,-⟩:=id k4.opened
 refine BA' (fun i=>i==9) (by kernel_rfl) (fun i hp=>?_)
 obtain rfl:=beq_iff_eq.1 hp
 clear hp
 refine AllReadyH.cons (o:=?o9) ?e9 ?k9 AllReadyH.nil
 case e9=>simp only [lg,lz,ls] <;> rfl
 intro K hK
 have D9:=k8
 obtain ⟨q0,q1,q2,q3,q4,q5⟩:=Aj D9
 have F0:=fR u b8 0 _ _ D9
 have F1:=fR u b8 1 _ _ D9
 have F2:=fR u b8 2 _ _ D9
 have F3:=fR u b8 3 _ _ D9
 have F4:=fR u b8 4 _ _ D9
 have F5:=fR u b8 5 _ _ D9
 go_simp
 clear q0 F0 q1 F1 q2 F2 q3 F3 q4 F4 q5 F5
 obtain ⟨u2,hw⟩:=eX (((((((u.setCell ⟨b8,0,none⟩ (.bool (decide (z.num<0)))).setCell ⟨b8,1,none⟩ (.slice Aq (Vx.len z.num.natAbs) cq)).setCell ⟨b8,2,none⟩ (.slice Bq (Vx.len (below z.den)) dq)).setCell ⟨b8,3,none⟩ (.bool (decide (v.num<0)))).setCell ⟨b8,4,none⟩ (.slice Eq (Vx.len v.num.natAbs) eq)).setCell ⟨b8,5,none⟩ (.slice Gq (Vx.len (below v.den)) gq)))
 obtain ⟨E9,OT,LV,BL⟩:=AF D9 hw
 rw [←hw]
 clear hw
 have HB9:=BL _ _ l8 HB
 have k4_9:=LV.box k4
 refine hK.out _ _ (hSof.out _ HB9) (fun _=>?_)
 clear hK K OT LV BL D9
 try simp only [Act.put,lt,ly,lu]
 have hHeld:=hSof.out _ HB9
 refine tk (i:=10) (h:=?_)
 try simp only [Act.put,lt,ly,lu]
 refine wpAnyH_done (by kernel_rfl) ?_ _
 have FB:=hid (bS bd.out HB9)
 clear hHeld hSof
 go_wp2_with fail
 refine hG.out _ _ ?_
 exact Fo (Ab' hP.out FB.out) (hp.out.keep FB.out) ea.out eb.out er.out ⟨(FB.out.cell (p:=⟨g,6,none⟩) hgl).trans f0,(FB.out.cell (p:=⟨g,7,none⟩) hgl).trans f1,(FB.out.cell (p:=⟨g,8,none⟩) hgl).trans f2,(FB.out.cell (p:=⟨g,9,none⟩) hgl).trans f3,(FB.out.cell (p:=⟨g,10,none⟩) hgl).trans f4,(FB.out.cell (p:=⟨g,11,none⟩) hgl).trans f5⟩ (hfb.out.keep FB.out) E9 k4_9 ex.out ey.out ez.out ev.out (Au' hT.out FB.out) (fun w' h=>hPo.out w' (Ae' FB.out h))
theorem Em' {w:World} {P:Nat} {a b r:Rat} {A1 B1 A2 B2 A3 B3:Option Addr} {c1 d1 c2 d2 c3 d3:Nat} {x y:Rat} {g:Nat} {A4 B4 A5 B5:Option Addr} {c4 d4 c5 d5:Nat} {y0 y2 y5 y6 y7 y8 y9 y10 y11 y12 y13 y14 y15 y16 y17 y18 y19 y20 y21 y22 y23 y24 y25 y26 y27 y28 y29 y30 y31 y32 y33 y34 y35 y36 y37 y38 y39 y40 y41 y42 y43 y44 y45 y46 y47 y48 y49 y50 y51 y52 y53 y54 y55 y56 y57 y58 y59 y60 y61 y62 y63 y64 y65 y66 y67 y68 y69 y70 y71 y72 y73 y74 y75 y76 y77 y78 y79 y80 y81 y82 y83 y84 y85 y86 y87 y88 y89 y90 y91 y92 y93 y94 y95 y96 y97 y98 y99 y100 y101 y102 y103 y104 y105 y106 y107 y108 y109 y110 y111 y112 y113:Value} {Po:Ending→World→Prop} (hP:w.heap[P]?=some (.cells #[.bool (decide (a.num<0)),.slice A1 (Vx.len a.num.natAbs) c1,.slice B1 (Vx.len (below a.den)) d1,.bool (decide (b.num<0)),.slice A2 (Vx.len b.num.natAbs) c2,.slice B2 (Vx.len (below b.den)) d2,.bool (decide (r.num<0)),.slice A3 (Vx.len r.num.natAbs) c3,.slice B3 (Vx.len (below r.den)) d3] 39 (0,0))) (hp:AA' w (.agg #[.bool (decide (a.num<0)),.slice A1 (Vx.len a.num.natAbs) c1,.slice B1 (Vx.len (below a.den)) d1,.bool (decide (b.num<0)),.slice A2 (Vx.len b.num.natAbs) c2,.slice B2 (Vx.len (below b.den)) d2,.bool (decide (r.num<0)),.slice A3 (Vx.len r.num.natAbs) c3,.slice B3 (Vx.len (below r.den)) d3]) a b r) (ea:mkRat 1 2=a) (eb:mkRat 3 4=b) (er:0=r) (hf:w.cell? ⟨g,6,none⟩=some (.bool (decide (x.num<0)))∧w.cell? ⟨g,7,none⟩=some (.slice A4 (Vx.len x.num.natAbs) c4)∧w.cell? ⟨g,8,none⟩=some (.slice B4 (Vx.len (below x.den)) d4)∧w.cell? ⟨g,9,none⟩=some (.bool (decide (y.num<0)))∧w.cell? ⟨g,10,none⟩=some (.slice A5 (Vx.len y.num.natAbs) c5)∧w.cell? ⟨g,11,none⟩=some (.slice B5 (Vx.len (below y.den)) d5)) (hfb:Ao' w (.agg #[.bool (decide (x.num<0)),.slice A4 (Vx.len x.num.natAbs) c4,.slice B4 (Vx.len (below x.den)) d4,.bool (decide (y.num<0)),.slice A5 (Vx.len y.num.natAbs) c5,.slice B5 (Vx.len (below y.den)) d5]) x y) (ex:(6:Rat)=x) (ey:mkRat 15 2=y) (hT:TabAt 0 Lib.deBruijn64tab w) (hPo:∀ w',Below w.heap.size w w'→Po (.returned (.bool true)) w') :
   (codeAt 3 Tryz.f5).wp Tryz.prog (bodyPost Tryz.prog Tryz.f5 Po) { tmps:=#[y0,.pointer (some ⟨P,0,none⟩),y2,.slice (some ⟨g,0,none⟩) 2 2,.int .i64 0,y5,y6,y7,y8,y9,y10,y11,y12,y13,y14,y15,y16,y17,y18,y19,y20,y21,y22,y23,y24,y25,y26,y27,y28,y29,y30,y31,y32,y33,y34,y35,y36,y37,y38,y39,y40,y41,y42,y43,y44,y45,y46,y47,y48,y49,y50,y51,y52,y53,y54,y55,y56,y57,y58,y59,y60,y61,y62,y63,y64,y65,y66,y67,y68,y69,y70,y71,y72,y73,y74,y75,y76,y77,y78,y79,y80,y81,y82,y83,y84,y85,y86,y87,y88,y89,y90,y91,y92,y93,y94,y95,y96,y97,y98,y99,y100,y101,y102,y103,y104,y105,y106,y107,y108,y109,y110,y111,y112,y113],defers:=[] } w:=by
 obtain ⟨m,em⟩:=eY (((8:Int):Rat):Rat)
 obtain ⟨n,en⟩:=eY (((1:Int):Rat):Rat)
 have KP:=hid (Dp' ea eb er)
 have KL:=hid (IJ em en ea)
 obtain ⟨f0,f1,f2,f3,f4,f5⟩:=hf
 have hgl:=bL _ _ f0
 have hPl:=Al' hP
 obtain ⟨z0,z1,z2,z3,z4,z5,z6,z7,z8⟩:=AY hP
 replace ex:=hid ex
 replace ey:=hid ey
 replace em:=hid em
 replace en:=hid en
 replace ea:=hid ea
 replace eb:=hid eb
 replace er:=hid er
 replace hP:=hid hP
 replace hp:=hid hp
 replace hPo:=hid hPo
 replace hT:=hid hT
 replace hfb:=hid hfb
 show Code.wp _ (Code.seq _ _) _ _ _
 refine wp_seq_k ?_
 intro G hG
 replace hG:=hid hG
 go_wp2_with fail
 refine wp_region_held_drew (S:=(fun w'=>(w'.cell? ⟨P,0,none⟩=w.cell? ⟨P,0,none⟩∧w'.cell? ⟨P,1,none⟩=w.cell? ⟨P,1,none⟩∧w'.cell? ⟨P,2,none⟩=w.cell? ⟨P,2,none⟩∧w'.cell? ⟨P,3,none⟩=w.cell? ⟨P,3,none⟩∧w'.cell? ⟨P,4,none⟩=w.cell? ⟨P,4,none⟩∧w'.cell? ⟨P,5,none⟩=w.cell? ⟨P,5,none⟩∧w'.cell? ⟨P,6,none⟩=w.cell? ⟨P,6,none⟩∧w'.cell? ⟨P,7,none⟩=w.cell? ⟨P,7,none⟩∧w'.cell? ⟨P,8,none⟩=w.cell? ⟨P,8,none⟩))) (by kernel_rfl) ?_ (fun hHeld=>?_)
 · (try dsimp only)
   exact ⟨rfl,rfl,rfl,rfl,rfl,rfl,rfl,rfl,rfl⟩
 obtain ⟨w1,hw1⟩:=eX w.drew
 have b1:Hid (Below w.heap.size w w1):=hid (by rw [hw1];exact ⟨rfl,rfl,rfl,nL _,fun _ _=>rfl⟩)
 rw [←hw1] at hHeld ⊢
 clear hw1
 have lbW:w.heap.size≤w1.heap.size:=b1.out.size
 have lbS:w.heap.size≤w1.heap.size:=b1.out.size
 refine tk (i:=0) (h:=?_)
 try simp only [Act.put,lt,ly,lu]
 refine rdz (i:=1) (h:=fun K hK=>?_)
 go_simp;go_at_call 18
 refine (AE' (w:=w1) em.out (by omega) (by omega)).mono ?_
 rintro e w2 ⟨v2,rfl,hv2,b2⟩
 obtain ⟨C1,j1,C2,j2,rfl,-,-⟩:=id hv2.opened
 replace hv2:=hid hv2
 replace b2:=hid b2
 have y0_2:=hid (bS b1.out b2.out)
 have hS:=y0_2.out
 clear hHeld
 refine hK.out _ _ ?_ (fun hHeld=>?_)
 · (try dsimp only)
   exact ⟨hS.cell (p:=⟨P,0,none⟩) hPl,hS.cell (p:=⟨P,1,none⟩) hPl,hS.cell (p:=⟨P,2,none⟩) hPl,hS.cell (p:=⟨P,3,none⟩) hPl,hS.cell (p:=⟨P,4,none⟩) hPl,hS.cell (p:=⟨P,5,none⟩) hPl,hS.cell (p:=⟨P,6,none⟩) hPl,hS.cell (p:=⟨P,7,none⟩) hPl,hS.cell (p:=⟨P,8,none⟩) hPl⟩
 clear hK K hS;try simp only [Act.put,lt,ly,lu]
 refine rdz (i:=2) (h:=fun K hK=>?_)
 go_simp;go_at_call 18
 refine (AE' (w:=w2) en.out (by omega) (by omega)).mono ?_
 rintro e w3 ⟨v3,rfl,hv3,b3⟩
 obtain ⟨C3,j3,C4,j4,rfl,-,-⟩:=id hv3.opened
 replace hv3:=hid hv3
 replace b3:=hid b3
 have y0_3:=hid (bS y0_2.out b3.out)
 have hS:=y0_3.out
 clear hHeld
 refine hK.out _ _ ?_ (fun hHeld=>?_)
 · (try dsimp only)
   exact ⟨hS.cell (p:=⟨P,0,none⟩) hPl,hS.cell (p:=⟨P,1,none⟩) hPl,hS.cell (p:=⟨P,2,none⟩) hPl,hS.cell (p:=⟨P,3,none⟩) hPl,hS.cell (p:=⟨P,4,none⟩) hPl,hS.cell (p:=⟨P,5,none⟩) hPl,hS.cell (p:=⟨P,6,none⟩) hPl,hS.cell (p:=⟨P,7,none⟩) hPl,hS.cell (p:=⟨P,8,none⟩) hPl⟩
 clear hK K hS;try simp only [Act.put,lt,ly,lu]
 refine rdz (i:=3) (h:=fun K hK=>?_)
 go_simp;go_at_call 28
 refine (Fn' (hp.out.keep y0_3.out) (hv2.out.keep b3.out) hv3.out KP.out.1 KL.out.2.1.1 KL.out.2.1.2 (nT KP.out.2.1.1 (by omega)) (nT KP.out.2.1.2 (by omega)) (nT KL.out.2.2.1 (by omega)) (nT KL.out.2.2.2 (by omega))).mono ?_
 rintro e w4 hSR
 obtain ⟨rfl,b4⟩:e=.returned (.tuple #[.int .i64 3,.int .i64 0])∧Below w3.heap.size w3 w4:=by
   obtain ⟨h,hb⟩:=hSR
   refine ⟨?_,hb⟩
   rcases h with ⟨k,hk,he,h1,h2⟩ | ⟨-,h⟩
   · have hk3:k=3:=by
       rcases Nat.lt_trichotomy k 3 with h3 | h3 | h3
       · have hc:k=0∨k=1∨k=2:=by omega
         rcases hc with rfl | rfl | rfl
         · exact absurd h1 (Rat.not_le.2 KL.out.1.2.1)
         · exact absurd h1 (Rat.not_le.2 KL.out.1.2.2.1)
         · exact absurd h1 (Rat.not_le.2 KL.out.1.2.2.2)
       · exact h3
       · exact absurd KL.out.1.1 (Rat.not_le.2 (h2 3 h3))
     subst hk3
     exact he
   · exact absurd KL.out.1.1 (Rat.not_le.2 (h 3 (by omega)))
 replace b4:=hid b4
 clear hSR
 have y0_4:=hid (bS y0_3.out b4.out)
 have hS:=y0_4.out
 clear hHeld
 refine hK.out _ _ ?_ (fun hHeld=>?_)
 · (try dsimp only)
   exact ⟨hS.cell (p:=⟨P,0,none⟩) hPl,hS.cell (p:=⟨P,1,none⟩) hPl,hS.cell (p:=⟨P,2,none⟩) hPl,hS.cell (p:=⟨P,3,none⟩) hPl,hS.cell (p:=⟨P,4,none⟩) hPl,hS.cell (p:=⟨P,5,none⟩) hPl,hS.cell (p:=⟨P,6,none⟩) hPl,hS.cell (p:=⟨P,7,none⟩) hPl,hS.cell (p:=⟨P,8,none⟩) hPl⟩
 clear hK K hS;try simp only [Act.put,lt,ly,lu]
 refine tk (i:=4) (h:=?_)
 try simp only [Act.put,lt,ly,lu]
 refine tk (i:=5) (h:=?_)
 try simp only [Act.put,lt,ly,lu]
 refine tk (i:=6) (h:=?_)
 try simp only [Act.put,lt,ly,lu]
 refine tk (i:=7) (h:=?_)
 try simp only [Act.put,lt,ly,lu]
 refine tk (i:=8) (h:=?_)
 try simp only [Act.put,lt,ly,lu]
 refine wpAnyH_done (by kernel_rfl) ?_ _
 clear hHeld
 have FB:=hid y0_4.out
 go_wp2_with fail
 refine hG.out _ _ ?_
 exact Fo' (Ab' hP.out FB.out) (hp.out.keep FB.out) ea.out eb.out er.out ⟨(FB.out.cell (p:=⟨g,6,none⟩) hgl).trans f0,(FB.out.cell (p:=⟨g,7,none⟩) hgl).trans f1,(FB.out.cell (p:=⟨g,8,none⟩) hgl).trans f2,(FB.out.cell (p:=⟨g,9,none⟩) hgl).trans f3,(FB.out.cell (p:=⟨g,10,none⟩) hgl).trans f4,(FB.out.cell (p:=⟨g,11,none⟩) hgl).trans f5⟩ (hfb.out.keep FB.out) ex.out ey.out (Au' hT.out FB.out) (fun w' h=>hPo.out w' (Ae' FB.out h))
end Go.Proofs.YtflopjfnppolgaaGreatDoor.Rf
