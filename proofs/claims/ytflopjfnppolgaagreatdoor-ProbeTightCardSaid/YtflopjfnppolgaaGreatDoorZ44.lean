/-
  Contracts of the functions that the law calls, for every input (TE).
-/
import Derived.Test.YtflopjfnppolgaaGreatDoorZ00
import Derived.Test.YtflopjfnppolgaaGreatDoorZ41
import Derived.Test.YtflopjfnppolgaaGreatDoorZ42
import Derived.Test.YtflopjfnppolgaaGreatDoorZ43
set_option linter.all false
set_option maxRecDepth 100000
set_option maxHeartbeats 40000000
namespace Go.Proofs.YtflopjfnppolgaaGreatDoor.Rf
open Lib (hid)
open Go.RowKit
open Rx
open Vx (Aa' Ai Ai')
open List renaming flatMap_cons → zfa, flatMap_nil → zfb, append_nil → zfc, nil_append → zfd, cons_append → zfe, foldl_cons → zff, foldl_nil → zfg, getElem?_toArray → lg, getElem?_cons_zero → lz, getElem?_cons_succ → ls, setIfInBounds_toArray → lt, set_cons_zero → ly, set_cons_succ → lu
theorem Fm' {w:World} {x y:Rat} {A B E G:Option Addr} {c d e g:Nat} (hx:Ah w (.agg #[.bool (decide (x.num<0)),.slice A (len x.num.natAbs) c,.slice B (len x.den) d]) x) (hy:Ah w (.agg #[.bool (decide (y.num<0)),.slice E (len y.num.natAbs) e,.slice G (len y.den) g]) y) :
   Ay' w (.agg #[.bool (decide (x.num<0)),.slice A (len x.num.natAbs) c,.slice B (len x.den) d,.bool (decide (y.num<0)),.slice E (len y.num.natAbs) e,.slice G (len y.den) g]) x y:=by
 obtain ⟨v1,v2,e1,h1,h2⟩:=hx
 obtain ⟨v3,v4,e2,h3,h4⟩:=hy
 simp only [Value.agg.injEq,Array.mk.injEq,List.cons.injEq,and_true,true_and] at e1 e2
 obtain ⟨rfl,rfl⟩:=e1
 obtain ⟨rfl,rfl⟩:=e2
 exact ⟨_,_,_,_,rfl,h1,h2,h3,h4⟩
theorem Dx' {w:World} {vx ve:Value} {x e l h:Rat} (el:x - e=l) (eh:x+e=h) (hx:Ah w vx x) (he:Ah w ve e) (sx:Aa' x≤16777216) (se:Aa' e≤16777216) :
   Calls Tryz.prog 47 #[vx,ve] w (B3' w l h):=by
 replace sx:=hid sx
 replace se:=hid se
 replace el:=hid el
 replace eh:=hid eh
 obtain ⟨C1,j1,C2,j2,rfl,-,-⟩:=id hx.opened
 replace hx:=hid hx
 obtain ⟨C3,j3,C4,j4,rfl,-,-⟩:=id he.opened
 replace he:=hid he
 obtain ⟨w1,hw1⟩:=eX ((((w.alloc (.cells #[.bool (decide (x.num<0)),.slice C1 (len x.num.natAbs) j1,.slice C2 (len x.den) j2] 43)).alloc (.cells #[.bool (decide (e.num<0)),.slice C3 (len e.num.natAbs) j3,.slice C4 (len e.den) j4] 43)).alloc (.cells #[.bool false,.slice none 0 0,.slice none 0 0,.bool false,.slice none 0 0,.slice none 0 0] 45)))
 obtain ⟨b1,g1,g2,g3⟩:=AC hw1
 replace g1:=hid g1
 replace g2:=hid g2
 replace g3:=hid g3
 replace b1:=hid b1
 go_enter Tryz.func47,Tryz.ntmps47
 go_upto_region 1 with fail
 rw [←hw1]
 clear hw1
 obtain ⟨z_x_0,z_x_1,z_x_2⟩:=Ad' g1.out
 obtain ⟨z_e_0,z_e_1,z_e_2⟩:=Ad' g2.out
 have lx:=Al' g1.out
 have le_:=Al' g2.out
 go_wp2_with fail
 refine wp_region_held_drew (S:=(fun w'=>w'.cell? ⟨w.heap.size,0,none⟩=w1.cell? ⟨w.heap.size,0,none⟩∧w'.cell? ⟨w.heap.size,1,none⟩=w1.cell? ⟨w.heap.size,1,none⟩∧w'.cell? ⟨w.heap.size,2,none⟩=w1.cell? ⟨w.heap.size,2,none⟩∧w'.cell? ⟨(w.heap.size+1),0,none⟩=w1.cell? ⟨(w.heap.size+1),0,none⟩∧w'.cell? ⟨(w.heap.size+1),1,none⟩=w1.cell? ⟨(w.heap.size+1),1,none⟩∧w'.cell? ⟨(w.heap.size+1),2,none⟩=w1.cell? ⟨(w.heap.size+1),2,none⟩)) (by kernel_rfl) ?_ (fun hHeld=>?_)
 · (try dsimp only)
   exact ⟨rfl,rfl,rfl,rfl,rfl,rfl⟩
 obtain ⟨wd,hwd⟩:=eX w1.drew
 have bd:Hid (Below w1.heap.size w1 wd):=hid (by rw [hwd];exact ⟨rfl,rfl,rfl,nL _,fun _ _=>rfl⟩)
 rw [←hwd] at hHeld ⊢
 clear hwd
 have hSof:Hid (∀ z:World,Below wd.heap.size wd z→z.cell? ⟨w.heap.size,0,none⟩=w1.cell? ⟨w.heap.size,0,none⟩∧z.cell? ⟨w.heap.size,1,none⟩=w1.cell? ⟨w.heap.size,1,none⟩∧z.cell? ⟨w.heap.size,2,none⟩=w1.cell? ⟨w.heap.size,2,none⟩∧z.cell? ⟨(w.heap.size+1),0,none⟩=w1.cell? ⟨(w.heap.size+1),0,none⟩∧z.cell? ⟨(w.heap.size+1),1,none⟩=w1.cell? ⟨(w.heap.size+1),1,none⟩∧z.cell? ⟨(w.heap.size+1),2,none⟩=w1.cell? ⟨(w.heap.size+1),2,none⟩):=hid (fun z hz=>by
   have k:=bS bd.out hz
   exact ⟨k.cell (p:=⟨w.heap.size,0,none⟩) lx,k.cell (p:=⟨w.heap.size,1,none⟩) lx,k.cell (p:=⟨w.heap.size,2,none⟩) lx,k.cell (p:=⟨(w.heap.size+1),0,none⟩) le_,k.cell (p:=⟨(w.heap.size+1),1,none⟩) le_,k.cell (p:=⟨(w.heap.size+1),2,none⟩) le_⟩)
 refine tk (i:=0) (h:=?_)
 try simp only [Act.put,lt,ly,lu]
 refine tk (i:=1) (h:=?_)
 try simp only [Act.put,lt,ly,lu]
 refine tk (i:=3) (h:=?_)
 try simp only [Act.put,lt,ly,lu]
 refine tk (i:=4) (h:=?_)
 try simp only [Act.put,lt,ly,lu]
 clear hHeld
 refine AK (base:=2) [jc 2 7 [] (fun V U=>Ah U V l) [],jc 5 10 [] (fun V U=>Ah U V h) []] (by kernel_rfl) hSof.out ⟨fun _ _=>⟨rfl,rfl⟩,fun _ _=>⟨rfl,rfl⟩,trivial⟩ ⟨fun _ _ _ _ h hb=>h.keep hb,fun _ _ _ _ h hb=>h.keep hb,trivial⟩ ⟨trivial,trivial,trivial⟩ ⟨?_,?_,trivial⟩ ?_
 · refine Aj' (h:=fun lv lb U HB hd K hK=>?_)
   simp only [W,Ae,Af',zfa,zfb,zfc,zfd,zfe,Job.ws,jc,jt,jf,ja,jl,zff,zfg,Ag',Act.put,lt,ly,lu]
   go_simp
   go_at_call 52
   refine (Fh el.out ((hx.out.keep b1.out).keep (bS bd.out HB)) ((he.out.keep b1.out).keep (bS bd.out HB)) (nT sx.out (by omega)) (nT se.out (by omega))).mono ?_
   rintro eK u9 ⟨V,rfl,kk,b9⟩
   exact hK.out V 0 u9 _ b9 nofun kk (by kernel_rfl)
 · refine Aj' (h:=fun lv lb U HB hd K hK=>?_)
   simp only [W,Ae,Af',zfa,zfb,zfc,zfd,zfe,Job.ws,jc,jt,jf,ja,jl,zff,zfg,Ag',Act.put,lt,ly,lu]
   go_simp
   go_at_call 88
   refine (DD' eh.out ((hx.out.keep b1.out).keep (bS bd.out HB)) ((he.out.keep b1.out).keep (bS bd.out HB)) (nT sx.out (by omega)) (nT se.out (by omega))).mono ?_
   rintro eK u9 ⟨V,rfl,kk,b9⟩
   exact hK.out V 0 u9 _ b9 nofun kk (by kernel_rfl)
 intro lv lb u HB hF hD
 have k2:=hF.1.1
 have k5:=hF.2.1.1
 clear hF hD
 simp only [W,Ae,Af',zfa,zfb,zfc,zfd,zfe,Job.ws,jc,jt,jf,ja,jl,zff,zfg,Ag',Act.put,lt,ly,lu]
 replace k2:Ah u (lv 2) l:=k2
 replace k5:Ah u (lv 5) h:=k5
 generalize lv 2=v2 at *
 generalize lv 5=v5 at *
 clear lv lb
 obtain ⟨Ap,cp,Bp,dp,rfl,-,-⟩:=id k2.opened
 obtain ⟨Aq,cq,Bq,dq,rfl,-,-⟩:=id k5.opened
 have kB:=Fm' k2 k5
 have hHeld:=hSof.out _ HB
 refine tk (i:=6) (h:=?_)
 try simp only [Act.put,lt,ly,lu]
 clear hHeld
 refine BA' (fun i=>i==7) (by kernel_rfl) (fun i hp=>?_)
 obtain rfl:=beq_iff_eq.1 hp
 clear hp
 refine AllReadyH.cons (o:=?o7) ?e7 ?k7 AllReadyH.nil
 case e7=>simp only [lg,lz,ls] <;> rfl
 intro K hK
 have hS0:=hSof.out _ HB
 have D7:=(Ab' g3.out (bS bd.out HB))
 obtain ⟨q0,q1,q2,q3,q4,q5⟩:=Aj D7
 have F0:=fR u (w.heap.size+2) 0 _ _ D7
 have F1:=fR u (w.heap.size+2) 1 _ _ D7
 have F2:=fR u (w.heap.size+2) 2 _ _ D7
 have F3:=fR u (w.heap.size+2) 3 _ _ D7
 have F4:=fR u (w.heap.size+2) 4 _ _ D7
 have F5:=fR u (w.heap.size+2) 5 _ _ D7
 go_simp
 clear q0 F0 q1 F1 q2 F2 q3 F3 q4 F4 q5 F5
 obtain ⟨u2,hw⟩:=eX (((((((u.setCell ⟨(w.heap.size+2),0,none⟩ (.bool (decide (l.num<0)))).setCell ⟨(w.heap.size+2),1,none⟩ (.slice Ap (len l.num.natAbs) cp)).setCell ⟨(w.heap.size+2),2,none⟩ (.slice Bp (len l.den) dp)).setCell ⟨(w.heap.size+2),3,none⟩ (.bool (decide (h.num<0)))).setCell ⟨(w.heap.size+2),4,none⟩ (.slice Aq (len h.num.natAbs) cq)).setCell ⟨(w.heap.size+2),5,none⟩ (.slice Bq (len h.den) dq)))
 obtain ⟨E7,OT,LV,BL⟩:=AF D7 hw
 rw [←hw]
 clear hw
 have HB7:=BL w.heap.size w (by omega) (bS b1.out (bS bd.out HB))
 have kB_7:=LV.rbox kB
 refine hK.out _ _ ⟨(cell_other OT (by omega) (ltl lx (bS bd.out HB).size)).trans hS0.1,(cell_other OT (by omega) (ltl lx (bS bd.out HB).size)).trans hS0.2.1,(cell_other OT (by omega) (ltl lx (bS bd.out HB).size)).trans hS0.2.2.1,(cell_other OT (by omega) (ltl le_ (bS bd.out HB).size)).trans hS0.2.2.2.1,(cell_other OT (by omega) (ltl le_ (bS bd.out HB).size)).trans hS0.2.2.2.2.1,(cell_other OT (by omega) (ltl le_ (bS bd.out HB).size)).trans hS0.2.2.2.2.2⟩ (fun _=>?_)
 clear hK K OT LV BL D7
 try simp only [Act.put,lt,ly,lu]
 refine wpAnyH_done (by kernel_rfl) ?_ _
 obtain ⟨r0,r1,r2,r3,r4,r5⟩:=Aj E7
 go_wp2_with fail
 refine bP (v:=.agg #[.bool (decide (l.num<0)),.slice Ap (len l.num.natAbs) cp,.slice Bp (len l.den) dp,.bool (decide (h.num<0)),.slice Aq (len h.num.natAbs) cq,.slice Bq (len h.den) dq]) ?_ rfl ⟨_,rfl,kB_7,HB7⟩
 simp [results,Tryz.results47,go_sem,r0,r1,r2,r3,r4,r5]
theorem Do' {w:World} {x y:Rat} {A B E G:Option Addr} {l1 c l2 d l3 e l4 g:Nat} {s1 s2:Bool} (h:Ay' w (.agg #[.bool s1,.slice A l1 c,.slice B l2 d,.bool s2,.slice E l3 e,.slice G l4 g]) x y):Ah w (.agg #[.bool s1,.slice A l1 c,.slice B l2 d]) x:=by
 obtain ⟨v1,v2,v3,v4,e,h1,h2,h3,h4⟩:=h
 simp only [Value.agg.injEq,Array.mk.injEq,List.cons.injEq,Value.bool.injEq,and_true,true_and] at e
 obtain ⟨rfl,rfl,rfl,rfl,rfl,rfl⟩:=e
 exact ⟨_,_,rfl,h1,h2⟩
theorem Dp {w:World} {x y:Rat} {A B E G:Option Addr} {l1 c l2 d l3 e l4 g:Nat} {s1 s2:Bool} (h:Ay' w (.agg #[.bool s1,.slice A l1 c,.slice B l2 d,.bool s2,.slice E l3 e,.slice G l4 g]) x y):Ah w (.agg #[.bool s2,.slice E l3 e,.slice G l4 g]) y:=by
 obtain ⟨v1,v2,v3,v4,e,h1,h2,h3,h4⟩:=h
 simp only [Value.agg.injEq,Array.mk.injEq,List.cons.injEq,Value.bool.injEq,and_true,true_and] at e
 obtain ⟨rfl,rfl,rfl,rfl,rfl,rfl⟩:=e
 exact ⟨_,_,rfl,h3,h4⟩
theorem Ib' {w:World} {v:Value} {a b r:Rat} (hp:AX w v a b r) (h1:¬ 0<a) (sa:Aa' a≤16777216) (sb:Aa' b≤16777216) :
   Calls Tryz.prog 10 #[v] w (AI' w false):=by
 obtain ⟨A1,c1,B1,d1,A2,c2,B2,d2,A3,c3,B3,d3,rfl,hpg,hpe⟩:=id hp
 obtain ⟨o,eo⟩:=eY (((1:Int):Rat):Rat)
 obtain ⟨k0,ek0⟩:=eY (a.num.sign:Int)
 obtain ⟨k1,ek1⟩:=eY (cmpQ b o:Int)
 obtain ⟨k2,ek2⟩:=eY (r.num.sign:Int)
 have so:Aa' o≤3:=by rw [←eo];decide
 have d0:decide (k0>0)=false:=dF_ (by rw [←ek0];intro h;exact h1 (DU' (Int.sign_pos_iff.1 h)))
 have hlo:=Do' hpg
 have hhi:=Dp hpg
 replace eo:=hid eo
 replace ek0:=hid ek0
 replace ek1:=hid ek1
 replace ek2:=hid ek2
 replace so:=hid so
 replace sa:=hid sa
 replace sb:=hid sb
 replace hp:=hid hp
 replace hpg:=hid hpg
 replace hpe:=hid hpe
 replace hlo:=hid hlo
 replace hhi:=hid hhi
 clear h1
 obtain ⟨w1,hw1⟩:=eX (w.alloc (.cells #[.bool (decide (a.num<0)),.slice A1 (len a.num.natAbs) c1,.slice B1 (len a.den) d1,.bool (decide (b.num<0)),.slice A2 (len b.num.natAbs) c2,.slice B2 (len b.den) d2,.bool (decide (r.num<0)),.slice A3 (len r.num.natAbs) c3,.slice B3 (len r.den) d3] 47))
 have b1:=hid (AO' hw1)
 have g1:=hid (AR' hw1)
 go_enter Tryz.func10,Tryz.ntmps10
 go_upto_region 1 with fail
 rw [←hw1]
 clear hw1
 have lp:=Al' g1.out
 obtain ⟨z0,z1,z2,z3,z4,z5,z6,z7,z8⟩:=AY g1.out
 go_wp2_with fail
 refine wp_region_held_drew (S:=(fun w'=>w'.cell? ⟨w.heap.size,0,none⟩=w1.cell? ⟨w.heap.size,0,none⟩∧w'.cell? ⟨w.heap.size,1,none⟩=w1.cell? ⟨w.heap.size,1,none⟩∧w'.cell? ⟨w.heap.size,2,none⟩=w1.cell? ⟨w.heap.size,2,none⟩∧w'.cell? ⟨w.heap.size,3,none⟩=w1.cell? ⟨w.heap.size,3,none⟩∧w'.cell? ⟨w.heap.size,4,none⟩=w1.cell? ⟨w.heap.size,4,none⟩∧w'.cell? ⟨w.heap.size,5,none⟩=w1.cell? ⟨w.heap.size,5,none⟩∧w'.cell? ⟨w.heap.size,6,none⟩=w1.cell? ⟨w.heap.size,6,none⟩∧w'.cell? ⟨w.heap.size,7,none⟩=w1.cell? ⟨w.heap.size,7,none⟩∧w'.cell? ⟨w.heap.size,8,none⟩=w1.cell? ⟨w.heap.size,8,none⟩)) (by kernel_rfl) ?_ (fun hHeld=>?_)
 · (try dsimp only)
   exact ⟨rfl,rfl,rfl,rfl,rfl,rfl,rfl,rfl,rfl⟩
 obtain ⟨wd,hwd⟩:=eX w1.drew
 have bd:Hid (Below w1.heap.size w1 wd):=hid (by rw [hwd];exact ⟨rfl,rfl,rfl,nL _,fun _ _=>rfl⟩)
 rw [←hwd] at hHeld ⊢
 clear hwd
 have hSof:Hid (∀ z:World,Below wd.heap.size wd z→z.cell? ⟨w.heap.size,0,none⟩=w1.cell? ⟨w.heap.size,0,none⟩∧z.cell? ⟨w.heap.size,1,none⟩=w1.cell? ⟨w.heap.size,1,none⟩∧z.cell? ⟨w.heap.size,2,none⟩=w1.cell? ⟨w.heap.size,2,none⟩∧z.cell? ⟨w.heap.size,3,none⟩=w1.cell? ⟨w.heap.size,3,none⟩∧z.cell? ⟨w.heap.size,4,none⟩=w1.cell? ⟨w.heap.size,4,none⟩∧z.cell? ⟨w.heap.size,5,none⟩=w1.cell? ⟨w.heap.size,5,none⟩∧z.cell? ⟨w.heap.size,6,none⟩=w1.cell? ⟨w.heap.size,6,none⟩∧z.cell? ⟨w.heap.size,7,none⟩=w1.cell? ⟨w.heap.size,7,none⟩∧z.cell? ⟨w.heap.size,8,none⟩=w1.cell? ⟨w.heap.size,8,none⟩):=hid (fun z hz=>by
   have k:=bS bd.out hz
   exact ⟨k.cell (p:=⟨w.heap.size,0,none⟩) lp,k.cell (p:=⟨w.heap.size,1,none⟩) lp,k.cell (p:=⟨w.heap.size,2,none⟩) lp,k.cell (p:=⟨w.heap.size,3,none⟩) lp,k.cell (p:=⟨w.heap.size,4,none⟩) lp,k.cell (p:=⟨w.heap.size,5,none⟩) lp,k.cell (p:=⟨w.heap.size,6,none⟩) lp,k.cell (p:=⟨w.heap.size,7,none⟩) lp,k.cell (p:=⟨w.heap.size,8,none⟩) lp⟩)
 refine tk (i:=0) (h:=?_)
 try simp only [Act.put,lt,ly,lu]
 refine tk (i:=1) (h:=?_)
 try simp only [Act.put,lt,ly,lu]
 refine tk (i:=2) (h:=?_)
 try simp only [Act.put,lt,ly,lu]
 clear hHeld
 refine AK (base:=1) [jf 3 6 [] (.int .i64 k0) [⟨4,7,fun lv lb=>.bool false⟩,⟨5,8,fun lv lb=>.bool false⟩],jf 6 9 [] (undef) [],jf 7 10 [] (undef) [],jf 8 11 [] (undef) [],jf 9 12 [] (undef) [],jf 10 13 [] (undef) [],jf 11 14 [] (undef) [],jf 12 15 [] (.bool false) [],jf 13 16 [12] (.bool false) [],jf 14 17 [] (undef) [],jf 15 18 [] (undef) [],jf 16 19 [] (undef) [],jf 17 20 [] (undef) [],jf 18 21 [] (.bool false) []] (by kernel_rfl) hSof.out ⟨fun _ _=>⟨rfl,rfl⟩,fun _ _=>⟨rfl,rfl⟩,fun _ _=>⟨rfl,rfl⟩,fun _ _=>⟨rfl,rfl⟩,fun _ _=>⟨rfl,rfl⟩,fun _ _=>⟨rfl,rfl⟩,fun _ _=>⟨rfl,rfl⟩,fun _ _=>⟨rfl,rfl⟩,fun _ _=>⟨rfl,rfl⟩,fun _ _=>⟨rfl,rfl⟩,fun _ _=>⟨rfl,rfl⟩,fun _ _=>⟨rfl,rfl⟩,fun _ _=>⟨rfl,rfl⟩,fun _ _=>⟨rfl,rfl⟩,trivial⟩ ⟨fun _ _ _ _ h _=>h,fun _ _ _ _ h _=>h,fun _ _ _ _ h _=>h,fun _ _ _ _ h _=>h,fun _ _ _ _ h _=>h,fun _ _ _ _ h _=>h,fun _ _ _ _ h _=>h,fun _ _ _ _ h _=>h,fun _ _ _ _ h _=>h,fun _ _ _ _ h _=>h,fun _ _ _ _ h _=>h,fun _ _ _ _ h _=>h,fun _ _ _ _ h _=>h,fun _ _ _ _ h _=>h,trivial⟩ ⟨⟨?_,?_,trivial⟩,trivial,trivial,trivial,trivial,trivial,trivial,trivial,trivial,trivial,trivial,trivial,trivial,trivial,trivial⟩ ⟨?_,?_,?_,?_,?_,?_,?_,?_,?_,?_,?_,?_,?_,?_,trivial⟩ ?_
 · refine AD' (h:=fun lv lb=>⟨by rfl,fun w0=>?_⟩)
   simp only [W,Ae,Af',zfa,zfb,zfc,zfd,zfe,Job.ws,jc,jt,jf,ja,jl,zff,zfg,Ag',Act.put,lt,ly,lu]
   go_simp
 · refine AD' (h:=fun lv lb=>⟨by rfl,fun w0=>?_⟩)
   simp only [W,Ae,Af',zfa,zfb,zfc,zfd,zfe,Job.ws,jc,jt,jf,ja,jl,zff,zfg,Ag',Act.put,lt,ly,lu]
   go_simp
 · refine Aj' (h:=fun lv lb U HB hd K hK=>?_)
   simp only [W,Ae,Af',zfa,zfb,zfc,zfd,zfe,Job.ws,jc,jt,jf,ja,jl,zff,zfg,Ag',Act.put,lt,ly,lu]
   go_simp
   go_at_call 41
   refine (CG ek0.out (hlo.out.keep (bS b1.out (bS bd.out HB)))).mono ?_
   rintro eK u9 ⟨rfl,b9⟩
   exact hK.out undef 0 u9 _ b9 nofun trivial (by kernel_rfl)
 · refine Aj' (h:=fun lv lb U HB hd K hK=>?_)
   simp only [W,Ae,Af',zfa,zfb,zfc,zfd,zfe,Job.ws,jc,jt,jf,ja,jl,zff,zfg,Ag',Act.put,lt,ly,lu]
   go_simp
   exact hK.out undef 0 U _ (Below.refl _ _) nofun trivial (by kernel_rfl)
 · refine Aj' (h:=fun lv lb U HB hd K hK=>?_)
   simp only [W,Ae,Af',zfa,zfb,zfc,zfd,zfe,Job.ws,jc,jt,jf,ja,jl,zff,zfg,Ag',Act.put,lt,ly,lu]
   go_simp
   exact hK.out undef 0 U _ (Below.refl _ _) nofun trivial (by kernel_rfl)
 · refine Aj' (h:=fun lv lb U HB hd K hK=>?_)
   simp only [W,Ae,Af',zfa,zfb,zfc,zfd,zfe,Job.ws,jc,jt,jf,ja,jl,zff,zfg,Ag',Act.put,lt,ly,lu]
   go_simp
   exact hK.out undef 0 U _ (Below.refl _ _) nofun trivial (by kernel_rfl)
 · refine Aj' (h:=fun lv lb U HB hd K hK=>?_)
   simp only [W,Ae,Af',zfa,zfb,zfc,zfd,zfe,Job.ws,jc,jt,jf,ja,jl,zff,zfg,Ag',Act.put,lt,ly,lu]
   go_simp
   exact hK.out undef 0 U _ (Below.refl _ _) nofun trivial (by kernel_rfl)
 · refine Aj' (h:=fun lv lb U HB hd K hK=>?_)
   simp only [W,Ae,Af',zfa,zfb,zfc,zfd,zfe,Job.ws,jc,jt,jf,ja,jl,zff,zfg,Ag',Act.put,lt,ly,lu]
   go_simp
   exact hK.out undef 0 U _ (Below.refl _ _) nofun trivial (by kernel_rfl)
 · refine Aj' (h:=fun lv lb U HB hd K hK=>?_)
   simp only [W,Ae,Af',zfa,zfb,zfc,zfd,zfe,Job.ws,jc,jt,jf,ja,jl,zff,zfg,Ag',Act.put,lt,ly,lu]
   go_simp
   exact hK.out undef 0 U _ (Below.refl _ _) nofun trivial (by kernel_rfl)
 · refine Aj' (h:=fun lv lb U HB hd K hK=>?_)
   simp only [W,Ae,Af',zfa,zfb,zfc,zfd,zfe,Job.ws,jc,jt,jf,ja,jl,zff,zfg,Ag',Act.put,lt,ly,lu]
   go_simp
   exact hK.out undef 0 U _ (Below.refl _ _) nofun trivial (by kernel_rfl)
 · refine Aj' (h:=fun lv lb U HB hd K hK=>?_)
   simp only [W,Ae,Af',zfa,zfb,zfc,zfd,zfe,Job.ws,jc,jt,jf,ja,jl,zff,zfg,Ag',Act.put,lt,ly,lu]
   go_simp
   exact hK.out undef 0 U _ (Below.refl _ _) nofun trivial (by kernel_rfl)
 · refine Aj' (h:=fun lv lb U HB hd K hK=>?_)
   simp only [W,Ae,Af',zfa,zfb,zfc,zfd,zfe,Job.ws,jc,jt,jf,ja,jl,zff,zfg,Ag',Act.put,lt,ly,lu]
   go_simp
   exact hK.out undef 0 U _ (Below.refl _ _) nofun trivial (by kernel_rfl)
 · refine Aj' (h:=fun lv lb U HB hd K hK=>?_)
   simp only [W,Ae,Af',zfa,zfb,zfc,zfd,zfe,Job.ws,jc,jt,jf,ja,jl,zff,zfg,Ag',Act.put,lt,ly,lu]
   go_simp
   exact hK.out undef 0 U _ (Below.refl _ _) nofun trivial (by kernel_rfl)
 · refine Aj' (h:=fun lv lb U HB hd K hK=>?_)
   simp only [W,Ae,Af',zfa,zfb,zfc,zfd,zfe,Job.ws,jc,jt,jf,ja,jl,zff,zfg,Ag',Act.put,lt,ly,lu]
   go_simp
   exact hK.out undef 0 U _ (Below.refl _ _) nofun trivial (by kernel_rfl)
 · refine Aj' (h:=fun lv lb U HB hd K hK=>?_)
   simp only [W,Ae,Af',zfa,zfb,zfc,zfd,zfe,Job.ws,jc,jt,jf,ja,jl,zff,zfg,Ag',Act.put,lt,ly,lu]
   go_simp
   exact hK.out undef 0 U _ (Below.refl _ _) nofun trivial (by kernel_rfl)
 · refine Aj' (h:=fun lv lb U HB hd K hK=>?_)
   simp only [W,Ae,Af',zfa,zfb,zfc,zfd,zfe,Job.ws,jc,jt,jf,ja,jl,zff,zfg,Ag',Act.put,lt,ly,lu]
   go_simp
   exact hK.out undef 0 U _ (Below.refl _ _) nofun trivial (by kernel_rfl)
 intro lv lb u HB hF hD
 clear hF hD
 simp only [W,Ae,Af',zfa,zfb,zfc,zfd,zfe,Job.ws,jc,jt,jf,ja,jl,zff,zfg,Ag',Act.put,lt,ly,lu]
 clear lv lb
 have hHeld:=hSof.out _ HB
 refine tk (i:=19) (h:=?_)
 try simp only [Act.put,lt,ly,lu]
 refine wpAnyH_done (by kernel_rfl) ?_ _
 clear hHeld
 have FB:=hid (bS b1.out (bS bd.out HB))
 clear hSof
 go_wp2_with fail
 go_ret
 exact ⟨rfl,FB.out⟩
theorem Ic {w:World} {v:Value} {a b r:Rat} (hp:AX w v a b r) (h1:0<a) (h2:¬ b≤1) (sa:Aa' a≤16777216) (sb:Aa' b≤16777216) :
   Calls Tryz.prog 10 #[v] w (AI' w false):=by
 obtain ⟨A1,c1,B1,d1,A2,c2,B2,d2,A3,c3,B3,d3,rfl,hpg,hpe⟩:=id hp
 obtain ⟨o,eo⟩:=eY (((1:Int):Rat):Rat)
 obtain ⟨k0,ek0⟩:=eY (a.num.sign:Int)
 obtain ⟨k1,ek1⟩:=eY (cmpQ b o:Int)
 obtain ⟨k2,ek2⟩:=eY (r.num.sign:Int)
 have so:Aa' o≤3:=by rw [←eo];decide
 have d0:decide (k0>0)=true:=dT_ (by rw [←ek0,Int.sign_eq_one_of_pos (Cl h1)];decide)
 have d1_:decide (k1≤0)=false:=dF_ (by rw [←ek1,←eo];exact Int.not_le.2 (CO' h2))
 have hlo:=Do' hpg
 have hhi:=Dp hpg
 replace eo:=hid eo
 replace ek0:=hid ek0
 replace ek1:=hid ek1
 replace ek2:=hid ek2
 replace so:=hid so
 replace sa:=hid sa
 replace sb:=hid sb
 replace hp:=hid hp
 replace hpg:=hid hpg
 replace hpe:=hid hpe
 replace hlo:=hid hlo
 replace hhi:=hid hhi
 clear h1
 clear h2
 obtain ⟨w1,hw1⟩:=eX (w.alloc (.cells #[.bool (decide (a.num<0)),.slice A1 (len a.num.natAbs) c1,.slice B1 (len a.den) d1,.bool (decide (b.num<0)),.slice A2 (len b.num.natAbs) c2,.slice B2 (len b.den) d2,.bool (decide (r.num<0)),.slice A3 (len r.num.natAbs) c3,.slice B3 (len r.den) d3] 47))
 have b1:=hid (AO' hw1)
 have g1:=hid (AR' hw1)
 go_enter Tryz.func10,Tryz.ntmps10
 go_upto_region 1 with fail
 rw [←hw1]
 clear hw1
 have lp:=Al' g1.out
 obtain ⟨z0,z1,z2,z3,z4,z5,z6,z7,z8⟩:=AY g1.out
 go_wp2_with fail
 refine wp_region_held_drew (S:=(fun w'=>w'.cell? ⟨w.heap.size,0,none⟩=w1.cell? ⟨w.heap.size,0,none⟩∧w'.cell? ⟨w.heap.size,1,none⟩=w1.cell? ⟨w.heap.size,1,none⟩∧w'.cell? ⟨w.heap.size,2,none⟩=w1.cell? ⟨w.heap.size,2,none⟩∧w'.cell? ⟨w.heap.size,3,none⟩=w1.cell? ⟨w.heap.size,3,none⟩∧w'.cell? ⟨w.heap.size,4,none⟩=w1.cell? ⟨w.heap.size,4,none⟩∧w'.cell? ⟨w.heap.size,5,none⟩=w1.cell? ⟨w.heap.size,5,none⟩∧w'.cell? ⟨w.heap.size,6,none⟩=w1.cell? ⟨w.heap.size,6,none⟩∧w'.cell? ⟨w.heap.size,7,none⟩=w1.cell? ⟨w.heap.size,7,none⟩∧w'.cell? ⟨w.heap.size,8,none⟩=w1.cell? ⟨w.heap.size,8,none⟩)) (by kernel_rfl) ?_ (fun hHeld=>?_)
 · (try dsimp only)
   exact ⟨rfl,rfl,rfl,rfl,rfl,rfl,rfl,rfl,rfl⟩
 obtain ⟨wd,hwd⟩:=eX w1.drew
 have bd:Hid (Below w1.heap.size w1 wd):=hid (by rw [hwd];exact ⟨rfl,rfl,rfl,nL _,fun _ _=>rfl⟩)
 rw [←hwd] at hHeld ⊢
 clear hwd
 have hSof:Hid (∀ z:World,Below wd.heap.size wd z→z.cell? ⟨w.heap.size,0,none⟩=w1.cell? ⟨w.heap.size,0,none⟩∧z.cell? ⟨w.heap.size,1,none⟩=w1.cell? ⟨w.heap.size,1,none⟩∧z.cell? ⟨w.heap.size,2,none⟩=w1.cell? ⟨w.heap.size,2,none⟩∧z.cell? ⟨w.heap.size,3,none⟩=w1.cell? ⟨w.heap.size,3,none⟩∧z.cell? ⟨w.heap.size,4,none⟩=w1.cell? ⟨w.heap.size,4,none⟩∧z.cell? ⟨w.heap.size,5,none⟩=w1.cell? ⟨w.heap.size,5,none⟩∧z.cell? ⟨w.heap.size,6,none⟩=w1.cell? ⟨w.heap.size,6,none⟩∧z.cell? ⟨w.heap.size,7,none⟩=w1.cell? ⟨w.heap.size,7,none⟩∧z.cell? ⟨w.heap.size,8,none⟩=w1.cell? ⟨w.heap.size,8,none⟩):=hid (fun z hz=>by
   have k:=bS bd.out hz
   exact ⟨k.cell (p:=⟨w.heap.size,0,none⟩) lp,k.cell (p:=⟨w.heap.size,1,none⟩) lp,k.cell (p:=⟨w.heap.size,2,none⟩) lp,k.cell (p:=⟨w.heap.size,3,none⟩) lp,k.cell (p:=⟨w.heap.size,4,none⟩) lp,k.cell (p:=⟨w.heap.size,5,none⟩) lp,k.cell (p:=⟨w.heap.size,6,none⟩) lp,k.cell (p:=⟨w.heap.size,7,none⟩) lp,k.cell (p:=⟨w.heap.size,8,none⟩) lp⟩)
 refine tk (i:=0) (h:=?_)
 try simp only [Act.put,lt,ly,lu]
 refine tk (i:=1) (h:=?_)
 try simp only [Act.put,lt,ly,lu]
 refine tk (i:=2) (h:=?_)
 try simp only [Act.put,lt,ly,lu]
 clear hHeld
 refine AK (base:=1) [jf 3 6 [] (.int .i64 k0) [⟨4,7,fun lv lb=>.bool true⟩,⟨5,8,fun lv lb=>.bool true⟩],jf 6 9 [] (.pointer (some ⟨w.heap.size,0,none⟩)) [],jf 7 10 [] (.pointer (some ⟨w.heap.size,3,none⟩)) [],jf 8 11 [] (.agg #[.bool (decide (b.num<0)),.slice A2 (len b.num.natAbs) c2,.slice B2 (len b.den) d2]) [],jc 9 12 [] (fun V U=>Ah U V o) [],jf 10 13 [8,9] (.int .i64 k1) [⟨11,14,fun lv lb=>.bool false⟩,⟨12,15,fun lv lb=>.bool false⟩,⟨13,16,fun lv lb=>.bool false⟩],jf 14 17 [] (undef) [],jf 15 18 [] (undef) [],jf 16 19 [] (undef) [],jf 17 20 [] (undef) [],jf 18 21 [] (.bool false) []] (by kernel_rfl) hSof.out ⟨fun _ _=>⟨rfl,rfl⟩,fun _ _=>⟨rfl,rfl⟩,fun _ _=>⟨rfl,rfl⟩,fun _ _=>⟨rfl,rfl⟩,fun _ _=>⟨rfl,rfl⟩,fun _ _=>⟨rfl,rfl⟩,fun _ _=>⟨rfl,rfl⟩,fun _ _=>⟨rfl,rfl⟩,fun _ _=>⟨rfl,rfl⟩,fun _ _=>⟨rfl,rfl⟩,fun _ _=>⟨rfl,rfl⟩,trivial⟩ ⟨fun _ _ _ _ h _=>h,fun _ _ _ _ h _=>h,fun _ _ _ _ h _=>h,fun _ _ _ _ h _=>h,fun _ _ _ _ h hb=>h.keep hb,fun _ _ _ _ h _=>h,fun _ _ _ _ h _=>h,fun _ _ _ _ h _=>h,fun _ _ _ _ h _=>h,fun _ _ _ _ h _=>h,fun _ _ _ _ h _=>h,trivial⟩ ⟨⟨?_,?_,trivial⟩,trivial,trivial,trivial,trivial,⟨?_,?_,?_,trivial⟩,trivial,trivial,trivial,trivial,trivial,trivial⟩ ⟨?_,?_,?_,?_,?_,?_,?_,?_,?_,?_,?_,trivial⟩ ?_
 · refine AD' (h:=fun lv lb=>⟨by rfl,fun w0=>?_⟩)
   simp only [W,Ae,Af',zfa,zfb,zfc,zfd,zfe,Job.ws,jc,jt,jf,ja,jl,zff,zfg,Ag',Act.put,lt,ly,lu]
   go_simp
 · refine AD' (h:=fun lv lb=>⟨by rfl,fun w0=>?_⟩)
   simp only [W,Ae,Af',zfa,zfb,zfc,zfd,zfe,Job.ws,jc,jt,jf,ja,jl,zff,zfg,Ag',Act.put,lt,ly,lu]
   go_simp
 · refine AD' (h:=fun lv lb=>⟨by kernel_rfl,fun w0=>?_⟩)
   simp only [W,Ae,Af',zfa,zfb,zfc,zfd,zfe,Job.ws,jc,jt,jf,ja,jl,zff,zfg,Ag',Act.put,lt,ly,lu]
   go_simp
 · refine AD' (h:=fun lv lb=>⟨by rfl,fun w0=>?_⟩)
   simp only [W,Ae,Af',zfa,zfb,zfc,zfd,zfe,Job.ws,jc,jt,jf,ja,jl,zff,zfg,Ag',Act.put,lt,ly,lu]
   go_simp
 · refine AD' (h:=fun lv lb=>⟨by rfl,fun w0=>?_⟩)
   simp only [W,Ae,Af',zfa,zfb,zfc,zfd,zfe,Job.ws,jc,jt,jf,ja,jl,zff,zfg,Ag',Act.put,lt,ly,lu]
   go_simp
 · refine Aj' (h:=fun lv lb U HB hd K hK=>?_)
   simp only [W,Ae,Af',zfa,zfb,zfc,zfd,zfe,Job.ws,jc,jt,jf,ja,jl,zff,zfg,Ag',Act.put,lt,ly,lu]
   go_simp
   go_at_call 41
   refine (CG ek0.out (hlo.out.keep (bS b1.out (bS bd.out HB)))).mono ?_
   rintro eK u9 ⟨rfl,b9⟩
   exact hK.out undef 0 u9 _ b9 nofun trivial (by kernel_rfl)
 · refine Aj' (h:=fun lv lb U HB hd K hK=>?_)
   simp only [W,Ae,Af',zfa,zfb,zfc,zfd,zfe,Job.ws,jc,jt,jf,ja,jl,zff,zfg,Ag',Act.put,lt,ly,lu]
   go_simp
   exact hK.out undef 0 U _ (Below.refl _ _) nofun trivial (by kernel_rfl)
 · refine Aj' (h:=fun lv lb U HB hd K hK=>?_)
   simp only [W,Ae,Af',zfa,zfb,zfc,zfd,zfe,Job.ws,jc,jt,jf,ja,jl,zff,zfg,Ag',Act.put,lt,ly,lu]
   go_simp
   exact hK.out undef 0 U _ (Below.refl _ _) nofun trivial (by kernel_rfl)
 · refine Aj' (h:=fun lv lb U HB hd K hK=>?_)
   simp only [W,Ae,Af',zfa,zfb,zfc,zfd,zfe,Job.ws,jc,jt,jf,ja,jl,zff,zfg,Ag',Act.put,lt,ly,lu]
   have Z:=hSof.out U HB
   obtain ⟨Z0,Z1,Z2,Z3,Z4,Z5,Z6,Z7,Z8⟩:=Z
   rw [z3] at Z3
   rw [z4] at Z4
   rw [z5] at Z5
   clear Z0 Z1 Z2 Z6 Z7 Z8
   go_simp
   exact hK.out undef 0 U _ (Below.refl _ _) nofun trivial (by kernel_rfl)
 · refine Aj' (h:=fun lv lb U HB hd K hK=>?_)
   simp only [W,Ae,Af',zfa,zfb,zfc,zfd,zfe,Job.ws,jc,jt,jf,ja,jl,zff,zfg,Ag',Act.put,lt,ly,lu]
   go_simp
   go_at_call 13
   refine (BQ (w:=U) eo.out (by omega) (by omega)).mono ?_
   rintro eK u9 ⟨V,rfl,kk,b9⟩
   exact hK.out V 0 u9 _ b9 nofun kk (by kernel_rfl)
 · refine Aj' (h:=fun lv lb U HB hd K hK=>?_)
   have k9:Ah U (lv 9) o:=hd.2.2.2.2.1 rfl
   simp only [W,Ae,Af',zfa,zfb,zfc,zfd,zfe,Job.ws,jc,jt,jf,ja,jl,zff,zfg,Ag',Act.put,lt,ly,lu]
   go_simp
   go_at_call 11
   refine (A4' ek1.out (hhi.out.keep (bS b1.out (bS bd.out HB))) k9 (nT sb.out (by omega)) (nT so.out (by omega))).mono ?_
   rintro eK u9 ⟨rfl,b9⟩
   exact hK.out undef 0 u9 _ b9 nofun trivial (by kernel_rfl)
 · refine Aj' (h:=fun lv lb U HB hd K hK=>?_)
   simp only [W,Ae,Af',zfa,zfb,zfc,zfd,zfe,Job.ws,jc,jt,jf,ja,jl,zff,zfg,Ag',Act.put,lt,ly,lu]
   go_simp
   exact hK.out undef 0 U _ (Below.refl _ _) nofun trivial (by kernel_rfl)
 · refine Aj' (h:=fun lv lb U HB hd K hK=>?_)
   simp only [W,Ae,Af',zfa,zfb,zfc,zfd,zfe,Job.ws,jc,jt,jf,ja,jl,zff,zfg,Ag',Act.put,lt,ly,lu]
   go_simp
   exact hK.out undef 0 U _ (Below.refl _ _) nofun trivial (by kernel_rfl)
 · refine Aj' (h:=fun lv lb U HB hd K hK=>?_)
   simp only [W,Ae,Af',zfa,zfb,zfc,zfd,zfe,Job.ws,jc,jt,jf,ja,jl,zff,zfg,Ag',Act.put,lt,ly,lu]
   go_simp
   exact hK.out undef 0 U _ (Below.refl _ _) nofun trivial (by kernel_rfl)
 · refine Aj' (h:=fun lv lb U HB hd K hK=>?_)
   simp only [W,Ae,Af',zfa,zfb,zfc,zfd,zfe,Job.ws,jc,jt,jf,ja,jl,zff,zfg,Ag',Act.put,lt,ly,lu]
   go_simp
   exact hK.out undef 0 U _ (Below.refl _ _) nofun trivial (by kernel_rfl)
 · refine Aj' (h:=fun lv lb U HB hd K hK=>?_)
   simp only [W,Ae,Af',zfa,zfb,zfc,zfd,zfe,Job.ws,jc,jt,jf,ja,jl,zff,zfg,Ag',Act.put,lt,ly,lu]
   go_simp
   exact hK.out undef 0 U _ (Below.refl _ _) nofun trivial (by kernel_rfl)
 intro lv lb u HB hF hD
 have k9:=hF.2.2.2.2.1.1
 clear hF hD
 simp only [W,Ae,Af',zfa,zfb,zfc,zfd,zfe,Job.ws,jc,jt,jf,ja,jl,zff,zfg,Ag',Act.put,lt,ly,lu]
 replace k9:Ah u (lv 9) o:=k9
 generalize lv 9=v9 at *
 clear lv lb
 have hHeld:=hSof.out _ HB
 refine tk (i:=19) (h:=?_)
 try simp only [Act.put,lt,ly,lu]
 refine wpAnyH_done (by kernel_rfl) ?_ _
 clear hHeld
 have FB:=hid (bS b1.out (bS bd.out HB))
 clear hSof
 go_wp2_with fail
 go_ret
 exact ⟨rfl,FB.out⟩
theorem Fn {w:World} {v:Value} {a b r:Rat} (hp:AX w v a b r) (h1:0<a) (h2:b≤1) {t:Bool} (h3:decide (0≤r)=t) (sa:Aa' a≤16777216) (sb:Aa' b≤16777216) :
   Calls Tryz.prog 10 #[v] w (AI' w t):=by
 obtain ⟨A1,c1,B1,d1,A2,c2,B2,d2,A3,c3,B3,d3,rfl,hpg,hpe⟩:=id hp
 obtain ⟨o,eo⟩:=eY (((1:Int):Rat):Rat)
 obtain ⟨k0,ek0⟩:=eY (a.num.sign:Int)
 obtain ⟨k1,ek1⟩:=eY (cmpQ b o:Int)
 obtain ⟨k2,ek2⟩:=eY (r.num.sign:Int)
 have so:Aa' o≤3:=by rw [←eo];decide
 have d0:decide (k0>0)=true:=dT_ (by rw [←ek0,Int.sign_eq_one_of_pos (Cl h1)];decide)
 have d1_:decide (k1≤0)=true:=dT_ (by rw [←ek1,←eo];exact Int.not_lt.1 (Cc' h2))
 have d2_:decide (k2≥0)=t:=by
   rw [←ek2,←h3]
   exact decide_eq_decide.2 ⟨fun h=>Rat.num_nonneg.1 (Int.sign_nonneg_iff.1 h),fun h=>Int.sign_nonneg_iff.2 (Rat.num_nonneg.2 h)⟩
 have hlo:=Do' hpg
 have hhi:=Dp hpg
 replace eo:=hid eo
 replace ek0:=hid ek0
 replace ek1:=hid ek1
 replace ek2:=hid ek2
 replace so:=hid so
 replace sa:=hid sa
 replace sb:=hid sb
 replace hp:=hid hp
 replace hpg:=hid hpg
 replace hpe:=hid hpe
 replace hlo:=hid hlo
 replace hhi:=hid hhi
 clear h1
 clear h2
 clear h3
 obtain ⟨w1,hw1⟩:=eX (w.alloc (.cells #[.bool (decide (a.num<0)),.slice A1 (len a.num.natAbs) c1,.slice B1 (len a.den) d1,.bool (decide (b.num<0)),.slice A2 (len b.num.natAbs) c2,.slice B2 (len b.den) d2,.bool (decide (r.num<0)),.slice A3 (len r.num.natAbs) c3,.slice B3 (len r.den) d3] 47))
 have b1:=hid (AO' hw1)
 have g1:=hid (AR' hw1)
 go_enter Tryz.func10,Tryz.ntmps10
 go_upto_region 1 with fail
 rw [←hw1]
 clear hw1
 have lp:=Al' g1.out
 obtain ⟨z0,z1,z2,z3,z4,z5,z6,z7,z8⟩:=AY g1.out
 go_wp2_with fail
 refine wp_region_held_drew (S:=(fun w'=>w'.cell? ⟨w.heap.size,0,none⟩=w1.cell? ⟨w.heap.size,0,none⟩∧w'.cell? ⟨w.heap.size,1,none⟩=w1.cell? ⟨w.heap.size,1,none⟩∧w'.cell? ⟨w.heap.size,2,none⟩=w1.cell? ⟨w.heap.size,2,none⟩∧w'.cell? ⟨w.heap.size,3,none⟩=w1.cell? ⟨w.heap.size,3,none⟩∧w'.cell? ⟨w.heap.size,4,none⟩=w1.cell? ⟨w.heap.size,4,none⟩∧w'.cell? ⟨w.heap.size,5,none⟩=w1.cell? ⟨w.heap.size,5,none⟩∧w'.cell? ⟨w.heap.size,6,none⟩=w1.cell? ⟨w.heap.size,6,none⟩∧w'.cell? ⟨w.heap.size,7,none⟩=w1.cell? ⟨w.heap.size,7,none⟩∧w'.cell? ⟨w.heap.size,8,none⟩=w1.cell? ⟨w.heap.size,8,none⟩)) (by kernel_rfl) ?_ (fun hHeld=>?_)
 · (try dsimp only)
   exact ⟨rfl,rfl,rfl,rfl,rfl,rfl,rfl,rfl,rfl⟩
 obtain ⟨wd,hwd⟩:=eX w1.drew
 have bd:Hid (Below w1.heap.size w1 wd):=hid (by rw [hwd];exact ⟨rfl,rfl,rfl,nL _,fun _ _=>rfl⟩)
 rw [←hwd] at hHeld ⊢
 clear hwd
 have hSof:Hid (∀ z:World,Below wd.heap.size wd z→z.cell? ⟨w.heap.size,0,none⟩=w1.cell? ⟨w.heap.size,0,none⟩∧z.cell? ⟨w.heap.size,1,none⟩=w1.cell? ⟨w.heap.size,1,none⟩∧z.cell? ⟨w.heap.size,2,none⟩=w1.cell? ⟨w.heap.size,2,none⟩∧z.cell? ⟨w.heap.size,3,none⟩=w1.cell? ⟨w.heap.size,3,none⟩∧z.cell? ⟨w.heap.size,4,none⟩=w1.cell? ⟨w.heap.size,4,none⟩∧z.cell? ⟨w.heap.size,5,none⟩=w1.cell? ⟨w.heap.size,5,none⟩∧z.cell? ⟨w.heap.size,6,none⟩=w1.cell? ⟨w.heap.size,6,none⟩∧z.cell? ⟨w.heap.size,7,none⟩=w1.cell? ⟨w.heap.size,7,none⟩∧z.cell? ⟨w.heap.size,8,none⟩=w1.cell? ⟨w.heap.size,8,none⟩):=hid (fun z hz=>by
   have k:=bS bd.out hz
   exact ⟨k.cell (p:=⟨w.heap.size,0,none⟩) lp,k.cell (p:=⟨w.heap.size,1,none⟩) lp,k.cell (p:=⟨w.heap.size,2,none⟩) lp,k.cell (p:=⟨w.heap.size,3,none⟩) lp,k.cell (p:=⟨w.heap.size,4,none⟩) lp,k.cell (p:=⟨w.heap.size,5,none⟩) lp,k.cell (p:=⟨w.heap.size,6,none⟩) lp,k.cell (p:=⟨w.heap.size,7,none⟩) lp,k.cell (p:=⟨w.heap.size,8,none⟩) lp⟩)
 refine tk (i:=0) (h:=?_)
 try simp only [Act.put,lt,ly,lu]
 refine tk (i:=1) (h:=?_)
 try simp only [Act.put,lt,ly,lu]
 refine tk (i:=2) (h:=?_)
 try simp only [Act.put,lt,ly,lu]
 clear hHeld
 refine AK (base:=1) [jf 3 6 [] (.int .i64 k0) [⟨4,7,fun lv lb=>.bool true⟩,⟨5,8,fun lv lb=>.bool true⟩],jf 6 9 [] (.pointer (some ⟨w.heap.size,0,none⟩)) [],jf 7 10 [] (.pointer (some ⟨w.heap.size,3,none⟩)) [],jf 8 11 [] (.agg #[.bool (decide (b.num<0)),.slice A2 (len b.num.natAbs) c2,.slice B2 (len b.den) d2]) [],jc 9 12 [] (fun V U=>Ah U V o) [],jf 10 13 [8,9] (.int .i64 k1) [⟨11,14,fun lv lb=>.bool true⟩,⟨12,15,fun lv lb=>.bool true⟩,⟨13,16,fun lv lb=>.bool true⟩],jf 14 17 [] (.pointer (some ⟨w.heap.size,6,none⟩)) [],jf 15 18 [] (.agg #[.bool (decide (r.num<0)),.slice A3 (len r.num.natAbs) c3,.slice B3 (len r.den) d3]) [],jf 16 19 [15] (.int .i64 k2) [⟨17,20,fun lv lb=>.bool t⟩,⟨18,21,fun lv lb=>.bool t⟩]] (by kernel_rfl) hSof.out ⟨fun _ _=>⟨rfl,rfl⟩,fun _ _=>⟨rfl,rfl⟩,fun _ _=>⟨rfl,rfl⟩,fun _ _=>⟨rfl,rfl⟩,fun _ _=>⟨rfl,rfl⟩,fun _ _=>⟨rfl,rfl⟩,fun _ _=>⟨rfl,rfl⟩,fun _ _=>⟨rfl,rfl⟩,fun _ _=>⟨rfl,rfl⟩,trivial⟩ ⟨fun _ _ _ _ h _=>h,fun _ _ _ _ h _=>h,fun _ _ _ _ h _=>h,fun _ _ _ _ h _=>h,fun _ _ _ _ h hb=>h.keep hb,fun _ _ _ _ h _=>h,fun _ _ _ _ h _=>h,fun _ _ _ _ h _=>h,fun _ _ _ _ h _=>h,trivial⟩ ⟨⟨?_,?_,trivial⟩,trivial,trivial,trivial,trivial,⟨?_,?_,?_,trivial⟩,trivial,trivial,⟨?_,?_,trivial⟩,trivial⟩ ⟨?_,?_,?_,?_,?_,?_,?_,?_,?_,trivial⟩ ?_
 · refine AD' (h:=fun lv lb=>⟨by rfl,fun w0=>?_⟩)
   simp only [W,Ae,Af',zfa,zfb,zfc,zfd,zfe,Job.ws,jc,jt,jf,ja,jl,zff,zfg,Ag',Act.put,lt,ly,lu]
   go_simp
 · refine AD' (h:=fun lv lb=>⟨by rfl,fun w0=>?_⟩)
   simp only [W,Ae,Af',zfa,zfb,zfc,zfd,zfe,Job.ws,jc,jt,jf,ja,jl,zff,zfg,Ag',Act.put,lt,ly,lu]
   go_simp
 · refine AD' (h:=fun lv lb=>⟨by kernel_rfl,fun w0=>?_⟩)
   simp only [W,Ae,Af',zfa,zfb,zfc,zfd,zfe,Job.ws,jc,jt,jf,ja,jl,zff,zfg,Ag',Act.put,lt,ly,lu]
   go_simp
 · refine AD' (h:=fun lv lb=>⟨by rfl,fun w0=>?_⟩)
   simp only [W,Ae,Af',zfa,zfb,zfc,zfd,zfe,Job.ws,jc,jt,jf,ja,jl,zff,zfg,Ag',Act.put,lt,ly,lu]
   go_simp
 · refine AD' (h:=fun lv lb=>⟨by rfl,fun w0=>?_⟩)
   simp only [W,Ae,Af',zfa,zfb,zfc,zfd,zfe,Job.ws,jc,jt,jf,ja,jl,zff,zfg,Ag',Act.put,lt,ly,lu]
   go_simp
 · refine AD' (h:=fun lv lb=>⟨by kernel_rfl,fun w0=>?_⟩)
   simp only [W,Ae,Af',zfa,zfb,zfc,zfd,zfe,Job.ws,jc,jt,jf,ja,jl,zff,zfg,Ag',Act.put,lt,ly,lu]
   go_simp
 · refine AD' (h:=fun lv lb=>⟨by rfl,fun w0=>?_⟩)
   simp only [W,Ae,Af',zfa,zfb,zfc,zfd,zfe,Job.ws,jc,jt,jf,ja,jl,zff,zfg,Ag',Act.put,lt,ly,lu]
   go_simp
 · refine Aj' (h:=fun lv lb U HB hd K hK=>?_)
   simp only [W,Ae,Af',zfa,zfb,zfc,zfd,zfe,Job.ws,jc,jt,jf,ja,jl,zff,zfg,Ag',Act.put,lt,ly,lu]
   go_simp
   go_at_call 41
   refine (CG ek0.out (hlo.out.keep (bS b1.out (bS bd.out HB)))).mono ?_
   rintro eK u9 ⟨rfl,b9⟩
   exact hK.out undef 0 u9 _ b9 nofun trivial (by kernel_rfl)
 · refine Aj' (h:=fun lv lb U HB hd K hK=>?_)
   simp only [W,Ae,Af',zfa,zfb,zfc,zfd,zfe,Job.ws,jc,jt,jf,ja,jl,zff,zfg,Ag',Act.put,lt,ly,lu]
   go_simp
   exact hK.out undef 0 U _ (Below.refl _ _) nofun trivial (by kernel_rfl)
 · refine Aj' (h:=fun lv lb U HB hd K hK=>?_)
   simp only [W,Ae,Af',zfa,zfb,zfc,zfd,zfe,Job.ws,jc,jt,jf,ja,jl,zff,zfg,Ag',Act.put,lt,ly,lu]
   go_simp
   exact hK.out undef 0 U _ (Below.refl _ _) nofun trivial (by kernel_rfl)
 · refine Aj' (h:=fun lv lb U HB hd K hK=>?_)
   simp only [W,Ae,Af',zfa,zfb,zfc,zfd,zfe,Job.ws,jc,jt,jf,ja,jl,zff,zfg,Ag',Act.put,lt,ly,lu]
   have Z:=hSof.out U HB
   obtain ⟨Z0,Z1,Z2,Z3,Z4,Z5,Z6,Z7,Z8⟩:=Z
   rw [z3] at Z3
   rw [z4] at Z4
   rw [z5] at Z5
   clear Z0 Z1 Z2 Z6 Z7 Z8
   go_simp
   exact hK.out undef 0 U _ (Below.refl _ _) nofun trivial (by kernel_rfl)
 · refine Aj' (h:=fun lv lb U HB hd K hK=>?_)
   simp only [W,Ae,Af',zfa,zfb,zfc,zfd,zfe,Job.ws,jc,jt,jf,ja,jl,zff,zfg,Ag',Act.put,lt,ly,lu]
   go_simp
   go_at_call 13
   refine (BQ (w:=U) eo.out (by omega) (by omega)).mono ?_
   rintro eK u9 ⟨V,rfl,kk,b9⟩
   exact hK.out V 0 u9 _ b9 nofun kk (by kernel_rfl)
 · refine Aj' (h:=fun lv lb U HB hd K hK=>?_)
   have k9:Ah U (lv 9) o:=hd.2.2.2.2.1 rfl
   simp only [W,Ae,Af',zfa,zfb,zfc,zfd,zfe,Job.ws,jc,jt,jf,ja,jl,zff,zfg,Ag',Act.put,lt,ly,lu]
   go_simp
   go_at_call 11
   refine (A4' ek1.out (hhi.out.keep (bS b1.out (bS bd.out HB))) k9 (nT sb.out (by omega)) (nT so.out (by omega))).mono ?_
   rintro eK u9 ⟨rfl,b9⟩
   exact hK.out undef 0 u9 _ b9 nofun trivial (by kernel_rfl)
 · refine Aj' (h:=fun lv lb U HB hd K hK=>?_)
   simp only [W,Ae,Af',zfa,zfb,zfc,zfd,zfe,Job.ws,jc,jt,jf,ja,jl,zff,zfg,Ag',Act.put,lt,ly,lu]
   go_simp
   exact hK.out undef 0 U _ (Below.refl _ _) nofun trivial (by kernel_rfl)
 · refine Aj' (h:=fun lv lb U HB hd K hK=>?_)
   simp only [W,Ae,Af',zfa,zfb,zfc,zfd,zfe,Job.ws,jc,jt,jf,ja,jl,zff,zfg,Ag',Act.put,lt,ly,lu]
   have Z:=hSof.out U HB
   obtain ⟨Z0,Z1,Z2,Z3,Z4,Z5,Z6,Z7,Z8⟩:=Z
   rw [z6] at Z6
   rw [z7] at Z7
   rw [z8] at Z8
   clear Z0 Z1 Z2 Z3 Z4 Z5
   go_simp
   exact hK.out undef 0 U _ (Below.refl _ _) nofun trivial (by kernel_rfl)
 · refine Aj' (h:=fun lv lb U HB hd K hK=>?_)
   simp only [W,Ae,Af',zfa,zfb,zfc,zfd,zfe,Job.ws,jc,jt,jf,ja,jl,zff,zfg,Ag',Act.put,lt,ly,lu]
   go_simp
   go_at_call 41
   refine (CG ek2.out (hpe.out.keep (bS b1.out (bS bd.out HB)))).mono ?_
   rintro eK u9 ⟨rfl,b9⟩
   exact hK.out undef 0 u9 _ b9 nofun trivial (by kernel_rfl)
 intro lv lb u HB hF hD
 have k9:=hF.2.2.2.2.1.1
 clear hF hD
 simp only [W,Ae,Af',zfa,zfb,zfc,zfd,zfe,Job.ws,jc,jt,jf,ja,jl,zff,zfg,Ag',Act.put,lt,ly,lu]
 replace k9:Ah u (lv 9) o:=k9
 generalize lv 9=v9 at *
 clear lv lb
 have hHeld:=hSof.out _ HB
 refine tk (i:=19) (h:=?_)
 try simp only [Act.put,lt,ly,lu]
 refine wpAnyH_done (by kernel_rfl) ?_ _
 clear hHeld
 have FB:=hid (bS b1.out (bS bd.out HB))
 clear hSof
 go_wp2_with fail
 go_ret
 exact ⟨rfl,FB.out⟩
theorem BR {w:World} {v:Value} {a b r:Rat} {k:Bool} (hp:AX w v a b r) (sa:Aa' a≤16777216) (sb:Aa' b≤16777216) (hk:decide (Ar' a b r)=k):Calls Tryz.prog 10 #[v] w (AI' w k):=by
 subst hk
 by_cases h1:0<a
 · by_cases h2:b≤1
   · by_cases h3:0≤r
     · rw [dT_ (show Ar' a b r from ⟨h1,h2,h3⟩)];exact Fn hp h1 h2 (dT_ h3) sa sb
     · rw [dF_ (show ¬ Ar' a b r from fun h=>h3 h.2.2)];exact Fn hp h1 h2 (dF_ h3) sa sb
   · rw [dF_ (show ¬ Ar' a b r from fun h=>h2 h.2.1)];exact Ic hp h1 h2 sa sb
 · rw [dF_ (show ¬ Ar' a b r from fun h=>h1 h.1)];exact Ib' hp h1 sa sb
end Go.Proofs.YtflopjfnppolgaaGreatDoor.Rf
