/-
  Contracts of the functions that the law calls, for every input (TF TC).
-/
import Derived.Test.YtflopjfnppolgaaGreatDoorZ00
import Derived.Test.YtflopjfnppolgaaGreatDoorZ44
import Derived.Test.YtflopjfnppolgaaGreatDoorZ41
import Derived.Test.YtflopjfnppolgaaGreatDoorZ42
set_option linter.all false
set_option maxRecDepth 100000
set_option maxHeartbeats 40000000
namespace Go.Proofs.YtflopjfnppolgaaGreatDoor.Rf
open Lib (hid)
open Go.RowKit
open Rx
open Vx (Aa' Ai Ai')
open List renaming flatMap_cons → zfa, flatMap_nil → zfb, append_nil → zfc, nil_append → zfd, cons_append → zfe, foldl_cons → zff, foldl_nil → zfg, getElem?_toArray → lg, getElem?_cons_zero → lz, getElem?_cons_succ → ls, setIfInBounds_toArray → lt, set_cons_zero → ly, set_cons_succ → lu
theorem A3'.at {w:World} {b o i:Nat} {l:List Rat} {q:Rat} (h:A3' w b o l) (hi:l[i]?=some q):∃ A1 c1 B1 d1,w.cell? ⟨b,o+i*3,none⟩=some (.bool (decide (q.num<0)))∧w.cell? ⟨b,o+i*3+1,none⟩=some (.slice A1 (len q.num.natAbs) c1)∧w.cell? ⟨b,o+i*3+2,none⟩=some (.slice B1 (len q.den) d1)∧Ah w (.agg #[.bool (decide (q.num<0)),.slice A1 (len q.num.natAbs) c1,.slice B1 (len q.den) d1]) q:=by
 obtain ⟨s,A1,n1,c1,A2,n2,c2,h0,h1,h2,h3⟩:=h i q hi
 obtain ⟨P1,r1,P2,r2,he,-,-⟩:=id h3.opened
 injection he with he
 injection he with he
 simp only [List.cons.injEq] at he
 obtain ⟨he0,he1,he2,-⟩:=he
 injection he0 with i0
 injection he1 with i1 i2 i3
 injection he2 with i4 i5 i6
 subst i0 i1 i2 i3 i4 i5 i6
 exact ⟨_,_,_,_,h0,h1,h2,h3⟩
theorem Gw' {w:World} {v vm vs:Value} {a b r m s x z:Rat} {rb ro c n n1:Nat} {l:List Rat} (hp:AX w v a b r) (hm:Ah w vm m) (hs:Ah w vs s) (hl:A3' w rb ro l) (hz:l[n]?=some z) (hx0:l[0]?=some x) (hn1:n1=n+1) (hn2:n≤64) (sx:Aa' x≤1000000) (sz:Aa' z≤1000000) (sm:Aa' m≤1000000) (sr:Aa' r≤1000000) (ss:Aa' s≤900) (h9:0≤r) {lo hi:Rat} {k:Int} (eLo:leastOf ((z - m - r) / (x - m - r)) [(z - m - r) / (x - m+r),(z - m+r) / (x - m - r),(z - m+r) / (x - m+r)]=lo) (eHi:greatestOf ((z - m - r) / (x - m - r)) [(z - m - r) / (x - m+r),(z - m+r) / (x - m - r),(z - m+r) / (x - m+r)]=hi) (hk:(if x - m - r≤0∧0≤x - m+r then 0 else (if (1 - s)^n≤lo then 1 else if hi<(1 - s)^n then 2 else 3))=k) :
   Calls Tryz.prog 14 #[v,.slice (some ⟨rb,ro,none⟩) n1 c,vm,vs] w (fun e w'=>e=.returned (.int .u8 k)∧Below w.heap.size w w'):=by
 obtain ⟨A1,c1,B1,d1,A2,c2,B2,d2,A3,c3,B3,d3,rfl,hpg,hpe⟩:=id hp
 obtain ⟨A4,c4,B4,d4,rfl,-,-⟩:=id hm.opened
 obtain ⟨A5,c5,B5,d5,rfl,-,-⟩:=id hs.opened
 obtain ⟨A6,c6,B6,d6,e0,e1,e2,hxx⟩:=hl.at (i:=0) hx0
 obtain ⟨A7,c7,B7,d7,f0,f1,f2,hzz⟩:=hl.at (i:=n) hz
 simp only [Nat.zero_mul,Nat.add_zero] at e0 e1 e2
 have hrb:=bL w _ e0
 have hnl:n<n1:=by omega
 have hn0:0<n1:=by omega
 have hwk:IntKind.i64.wrap (((n1:Nat):Int) - 1)=((n:Nat):Int):=by
   subst hn1
   unfold IntKind.wrap
   simp [IntKind.bits,IntKind.signed]
   omega
 obtain ⟨xf,exf⟩:=eY (x - r:Rat)
 obtain ⟨yf,eyf⟩:=eY (x+r:Rat)
 obtain ⟨xl,exl⟩:=eY (z - r:Rat)
 obtain ⟨yl,eyl⟩:=eY (z+r:Rat)
 obtain ⟨g0,eg0⟩:=eY (xf - m:Rat)
 obtain ⟨g1,eg1⟩:=eY (yf - m:Rat)
 obtain ⟨l0,el0⟩:=eY (xl - m:Rat)
 obtain ⟨l1,el1⟩:=eY (yl - m:Rat)
 obtain ⟨o,eo⟩:=eY (((0:Int):Rat):Rat)
 obtain ⟨t,ht⟩:=eY (decide (x - m - r≤0∧0≤x - m+r):Bool)
 have E0:g0=x - m - r:=by rw [←eg0,←exf];grind
 have E1:g1=x - m+r:=by rw [←eg1,←eyf];grind
 have E2:l0=z - m - r:=by rw [←el0,←exl];grind
 have E3:l1=z - m+r:=by rw [←el1,←eyl];grind
 have tf1:Aa' xf≤4000000:=by rw [←exf];have:=Vx.AC' x r;omega
 have tf2:Aa' yf≤4000000:=by rw [←eyf];have:=Vx.A9' x r;omega
 have tl1:Aa' xl≤4000000:=by rw [←exl];have:=Vx.AC' z r;omega
 have tl2:Aa' yl≤4000000:=by rw [←eyl];have:=Vx.A9' z r;omega
 have tg0:Aa' g0≤4000000:=by rw [E0];have:=Vx.AC' x m;have:=Vx.AC' (x - m) r;omega
 have tg1:Aa' g1≤4000000:=by rw [E1];have:=Vx.AC' x m;have:=Vx.A9' (x - m) r;omega
 have tl0:Aa' l0≤4000000:=by rw [E2];have:=Vx.AC' z m;have:=Vx.AC' (z - m) r;omega
 have tl3:Aa' l1≤4000000:=by rw [E3];have:=Vx.AC' z m;have:=Vx.A9' (z - m) r;omega
 have dH:decide (g0≤o∧o≤g1)=t:=by
   rw [←eo,E0,E1]
   exact ht
 have so:Aa' o≤3:=by rw [←eo];decide
 clear hz hx0
 replace E0:=hid E0
 replace E1:=hid E1
 replace E2:=hid E2
 replace E3:=hid E3
 replace ht:=hid ht
 replace eLo:=hid eLo
 replace eHi:=hid eHi
 replace hk:=hid hk
 replace exf:=hid exf
 replace eyf:=hid eyf
 replace exl:=hid exl
 replace eyl:=hid eyl
 replace eg0:=hid eg0
 replace eg1:=hid eg1
 replace el0:=hid el0
 replace el1:=hid el1
 replace eo:=hid eo
 replace tf1:=hid tf1
 replace tf2:=hid tf2
 replace tl1:=hid tl1
 replace tl2:=hid tl2
 replace tg0:=hid tg0
 replace tg1:=hid tg1
 replace tl0:=hid tl0
 replace tl3:=hid tl3
 replace dH:=hid dH
 replace so:=hid so
 replace sx:=hid sx
 replace sz:=hid sz
 replace sm:=hid sm
 replace sr:=hid sr
 replace ss:=hid ss
 replace hp:=hid hp
 replace hpg:=hid hpg
 replace hpe:=hid hpe
 replace hm:=hid hm
 replace hs:=hid hs
 replace hl:=hid hl
 replace hxx:=hid hxx
 replace hzz:=hid hzz
 replace hn1:=hid hn1
 obtain ⟨w1,hw1⟩:=eX (((w.alloc (.cells #[.bool (decide (a.num<0)),.slice A1 (len a.num.natAbs) c1,.slice B1 (len a.den) d1,.bool (decide (b.num<0)),.slice A2 (len b.num.natAbs) c2,.slice B2 (len b.den) d2,.bool (decide (r.num<0)),.slice A3 (len r.num.natAbs) c3,.slice B3 (len r.den) d3] 47)).alloc (.cells #[.bool (decide (m.num<0)),.slice A4 (len m.num.natAbs) c4,.slice B4 (len m.den) d4] 43)).alloc (.cells #[.bool (decide (s.num<0)),.slice A5 (len s.num.natAbs) c5,.slice B5 (len s.den) d5] 43))
 obtain ⟨b1,g1_,g2,g3⟩:=AC hw1
 replace b1:=hid b1
 go_enter Tryz.func14,Tryz.ntmps14
 go_upto_region 1 with fail
 rw [←hw1]
 clear hw1
 go_upto_region 2 with fail
 have lrbf:=ltl hrb b1.out.size
 have lpf:=Al' g1_
 have lmf:=Al' g2
 obtain ⟨-,-,-,-,-,-,p6,p7,p8⟩:=AY g1_
 obtain ⟨m0,m1,m2⟩:=Ad' g2
 have x0:=(b1.out.cell (p:=⟨rb,ro,none⟩) hrb).trans e0
 have x1:=(b1.out.cell (p:=⟨rb,ro+1,none⟩) hrb).trans e1
 have x2:=(b1.out.cell (p:=⟨rb,ro+2,none⟩) hrb).trans e2
 replace g1_:=hid g1_
 replace g2:=hid g2
 replace g3:=hid g3
 go_wp2_with fail
 refine wp_region_held_drew (S:=(fun w'=>w'.cell? ⟨rb,ro,none⟩=w1.cell? ⟨rb,ro,none⟩∧w'.cell? ⟨rb,ro+1,none⟩=w1.cell? ⟨rb,ro+1,none⟩∧w'.cell? ⟨rb,ro+2,none⟩=w1.cell? ⟨rb,ro+2,none⟩∧w'.cell? ⟨w.heap.size,6,none⟩=w1.cell? ⟨w.heap.size,6,none⟩∧w'.cell? ⟨w.heap.size,7,none⟩=w1.cell? ⟨w.heap.size,7,none⟩∧w'.cell? ⟨w.heap.size,8,none⟩=w1.cell? ⟨w.heap.size,8,none⟩∧w'.cell? ⟨(w.heap.size+1),0,none⟩=w1.cell? ⟨(w.heap.size+1),0,none⟩∧w'.cell? ⟨(w.heap.size+1),1,none⟩=w1.cell? ⟨(w.heap.size+1),1,none⟩∧w'.cell? ⟨(w.heap.size+1),2,none⟩=w1.cell? ⟨(w.heap.size+1),2,none⟩)) (by kernel_rfl) ?_ (fun hHeld=>?_)
 · (try dsimp only)
   exact ⟨rfl,rfl,rfl,rfl,rfl,rfl,rfl,rfl,rfl⟩
 obtain ⟨wdf,hwdf⟩:=eX w1.drew
 have bdf:Hid (Below w1.heap.size w1 wdf):=hid (by rw [hwdf];exact ⟨rfl,rfl,rfl,nL _,fun _ _=>rfl⟩)
 rw [←hwdf] at hHeld ⊢
 clear hwdf
 have hSoff:Hid (∀ z:World,Below wdf.heap.size wdf z→z.cell? ⟨rb,ro,none⟩=w1.cell? ⟨rb,ro,none⟩∧z.cell? ⟨rb,ro+1,none⟩=w1.cell? ⟨rb,ro+1,none⟩∧z.cell? ⟨rb,ro+2,none⟩=w1.cell? ⟨rb,ro+2,none⟩∧z.cell? ⟨w.heap.size,6,none⟩=w1.cell? ⟨w.heap.size,6,none⟩∧z.cell? ⟨w.heap.size,7,none⟩=w1.cell? ⟨w.heap.size,7,none⟩∧z.cell? ⟨w.heap.size,8,none⟩=w1.cell? ⟨w.heap.size,8,none⟩∧z.cell? ⟨(w.heap.size+1),0,none⟩=w1.cell? ⟨(w.heap.size+1),0,none⟩∧z.cell? ⟨(w.heap.size+1),1,none⟩=w1.cell? ⟨(w.heap.size+1),1,none⟩∧z.cell? ⟨(w.heap.size+1),2,none⟩=w1.cell? ⟨(w.heap.size+1),2,none⟩):=hid (fun z hz=>by
   have k:=bS bdf.out hz
   exact ⟨k.cell (p:=⟨rb,ro,none⟩) lrbf,k.cell (p:=⟨rb,ro+1,none⟩) lrbf,k.cell (p:=⟨rb,ro+2,none⟩) lrbf,k.cell (p:=⟨w.heap.size,6,none⟩) lpf,k.cell (p:=⟨w.heap.size,7,none⟩) lpf,k.cell (p:=⟨w.heap.size,8,none⟩) lpf,k.cell (p:=⟨(w.heap.size+1),0,none⟩) lmf,k.cell (p:=⟨(w.heap.size+1),1,none⟩) lmf,k.cell (p:=⟨(w.heap.size+1),2,none⟩) lmf⟩)
 refine tk (i:=0) (h:=?_)
 try simp only [Act.put,lt,ly,lu]
 refine tk (i:=1) (h:=?_)
 try simp only [Act.put,lt,ly,lu]
 refine tk (i:=2) (h:=?_)
 try simp only [Act.put,lt,ly,lu]
 refine tk (i:=3) (h:=?_)
 try simp only [Act.put,lt,ly,lu]
 refine tk (i:=4) (h:=?_)
 try simp only [Act.put,lt,ly,lu]
 refine tk (i:=6) (h:=?_)
 try simp only [Act.put,lt,ly,lu]
 clear hHeld
 refine AK (base:=1) [jc 5 22 [] (fun V U=>Ay' U V xf yf) [],jc 7 24 [] (fun V U=>Ay' U V m m) [],jc 8 25 [5,7] (fun V U=>Ay' U V g0 g1) [],ja 9 10 (.cells #[.bool false,.slice none 0 0,.slice none 0 0,.bool false,.slice none 0 0,.slice none 0 0] 45)] (by kernel_rfl) hSoff.out ⟨fun _ _=>⟨rfl,rfl⟩,fun _ _=>⟨rfl,rfl⟩,fun _ _=>⟨rfl,rfl⟩,fun _ _=>⟨rfl,rfl⟩,trivial⟩ ⟨fun _ _ _ _ h hb=>h.keep hb,fun _ _ _ _ h hb=>h.keep hb,fun _ _ _ _ h hb=>h.keep hb,B4' _ _ _,trivial⟩ ⟨trivial,trivial,trivial,trivial,trivial⟩ ⟨?_,?_,?_,?_,trivial⟩ ?_
 · refine Aj' (h:=fun lv lb U HB hd K hK=>?_)
   simp only [W,Ae,Af',zfa,zfb,zfc,zfd,zfe,Job.ws,jc,jt,jf,ja,jl,zff,zfg,Ag',Act.put,lt,ly,lu]
   go_simp
   go_at_call 47
   refine (Dx' exf.out eyf.out (hxx.out.keep (bS b1.out (bS bdf.out HB))) (hpe.out.keep (bS b1.out (bS bdf.out HB))) (nT sx.out (by omega)) (nT sr.out (by omega))).mono ?_
   rintro eK u9 ⟨V,rfl,kk,b9⟩
   exact hK.out V 0 u9 _ b9 nofun kk (by kernel_rfl)
 · refine Aj' (h:=fun lv lb U HB hd K hK=>?_)
   simp only [W,Ae,Af',zfa,zfb,zfc,zfd,zfe,Job.ws,jc,jt,jf,ja,jl,zff,zfg,Ag',Act.put,lt,ly,lu]
   go_simp
   go_at_call 48
   refine (C0' (hm.out.keep (bS b1.out (bS bdf.out HB)))).mono ?_
   rintro eK u9 ⟨V,rfl,kk,b9⟩
   exact hK.out V 0 u9 _ b9 nofun kk (by kernel_rfl)
 · refine Aj' (h:=fun lv lb U HB hd K hK=>?_)
   have k5:Ay' U (lv 5) xf yf:=hd.1 rfl
   have k7:Ay' U (lv 7) m m:=hd.2.1 rfl
   simp only [W,Ae,Af',zfa,zfb,zfc,zfd,zfe,Job.ws,jc,jt,jf,ja,jl,zff,zfg,Ag',Act.put,lt,ly,lu]
   go_simp
   go_at_call 46
   refine (Dv' eg0.out eg1.out k5 k7 (nT tf1.out (by omega)) (nT tf2.out (by omega)) (nT sm.out (by omega)) (nT sm.out (by omega))).mono ?_
   rintro eK u9 ⟨V,rfl,kk,b9⟩
   exact hK.out V 0 u9 _ b9 nofun kk (by kernel_rfl)
 · refine Cl' (h:=fun lv lb U=>⟨by rfl,?_⟩)
   simp only [W,Ae,Af',zfa,zfb,zfc,zfd,zfe,Job.ws,jc,jt,jf,ja,jl,zff,zfg,Ag',Act.put,lt,ly,lu]
   go_simp
 intro lv lb uf HBf hF hD
 have kf5:=hF.1.1
 have kf7:=hF.2.1.1
 have kf8:=hF.2.2.1.1
 have kf9:=hF.2.2.2.1.1
 have lf9:=hF.2.2.2.1.2 rfl
 clear hF hD
 simp only [W,Ae,Af',zfa,zfb,zfc,zfd,zfe,Job.ws,jc,jt,jf,ja,jl,zff,zfg,Ag',Act.put,lt,ly,lu]
 replace kf5:Ay' uf (lv 5) xf yf:=kf5
 replace kf7:Ay' uf (lv 7) m m:=kf7
 replace kf8:Ay' uf (lv 8) g0 g1:=kf8
 replace kf9:uf.heap[lb 9]?=some (.cells #[.bool false,.slice none 0 0,.slice none 0 0,.bool false,.slice none 0 0,.slice none 0 0] 45):=kf9
 replace lf9:wdf.heap.size≤lb 9:=lf9
 generalize lb 9=bf9 at *
 generalize lv 5=vf5 at *
 generalize lv 7=vf7 at *
 generalize lv 8=vf8 at *
 clear lv lb
 obtain ⟨Af,cf,Bf,df,Ef,ef,Gf,gf,rfl,-,-,-,-⟩:=id kf8.opened
 refine BA' (fun i=>i==10) (by kernel_rfl) (fun i hp=>?_)
 obtain rfl:=beq_iff_eq.1 hp
 clear hp
 refine AllReadyH.cons (o:=?o10) ?e10 ?k10 AllReadyH.nil
 case e10=>simp only [lg,lz,ls] <;> rfl
 intro K hK
 have D10:=kf9
 obtain ⟨q0,q1,q2,q3,q4,q5⟩:=Aj D10
 have F0:=fR uf bf9 0 _ _ D10
 have F1:=fR uf bf9 1 _ _ D10
 have F2:=fR uf bf9 2 _ _ D10
 have F3:=fR uf bf9 3 _ _ D10
 have F4:=fR uf bf9 4 _ _ D10
 have F5:=fR uf bf9 5 _ _ D10
 go_simp
 clear q0 F0 q1 F1 q2 F2 q3 F3 q4 F4 q5 F5
 obtain ⟨vf,hw⟩:=eX (((((((uf.setCell ⟨bf9,0,none⟩ (.bool (decide (g0.num<0)))).setCell ⟨bf9,1,none⟩ (.slice Af (len g0.num.natAbs) cf)).setCell ⟨bf9,2,none⟩ (.slice Bf (len g0.den) df)).setCell ⟨bf9,3,none⟩ (.bool (decide (g1.num<0)))).setCell ⟨bf9,4,none⟩ (.slice Ef (len g1.num.natAbs) ef)).setCell ⟨bf9,5,none⟩ (.slice Gf (len g1.den) gf)))
 obtain ⟨Ef,OT,LV,BL⟩:=AF D10 hw
 rw [←hw]
 clear hw
 have HEf:=BL _ _ lf9 HBf
 have kf8_10:=LV.rbox kf8
 refine hK.out _ _ (hSoff.out _ HEf) (fun hAnon=>?_)
 clear hAnon hK K OT LV BL D10
 try simp only [Act.put,lt,ly,lu]
 refine wpAnyH_done (by kernel_rfl) ?_ _
 have Bf:=hid (bS bdf.out HEf)
 have B1:=hid (bS b1.out Bf.out)
 clear hSoff p6 p7 p8 m0 m1 m2 x0 x1 x2
 have R1:=hid Ef
 clear Ef
 have G1:=hid (Ab' g1_.out Bf.out)
 have G2:=hid (Ab' g2.out Bf.out)
 have G3:=hid (Ab' g3.out Bf.out)
 go_upto_region 3 with fail
 have lrbl:=ltl hrb B1.out.size
 have lpl:=Al' G1.out
 have lml:=Al' G2.out
 obtain ⟨-,-,-,-,-,-,p6,p7,p8⟩:=AY G1.out
 obtain ⟨m0,m1,m2⟩:=Ad' G2.out
 have x0:=(B1.out.cell (p:=⟨rb,ro+n*3,none⟩) hrb).trans f0
 have x1:=(B1.out.cell (p:=⟨rb,ro+n*3+1,none⟩) hrb).trans f1
 have x2:=(B1.out.cell (p:=⟨rb,ro+n*3+2,none⟩) hrb).trans f2
 go_wp2_with fail
 refine wp_region_held_drew (S:=(fun w'=>w'.cell? ⟨rb,ro+n*3,none⟩=vf.cell? ⟨rb,ro+n*3,none⟩∧w'.cell? ⟨rb,ro+n*3+1,none⟩=vf.cell? ⟨rb,ro+n*3+1,none⟩∧w'.cell? ⟨rb,ro+n*3+2,none⟩=vf.cell? ⟨rb,ro+n*3+2,none⟩∧w'.cell? ⟨w.heap.size,6,none⟩=vf.cell? ⟨w.heap.size,6,none⟩∧w'.cell? ⟨w.heap.size,7,none⟩=vf.cell? ⟨w.heap.size,7,none⟩∧w'.cell? ⟨w.heap.size,8,none⟩=vf.cell? ⟨w.heap.size,8,none⟩∧w'.cell? ⟨(w.heap.size+1),0,none⟩=vf.cell? ⟨(w.heap.size+1),0,none⟩∧w'.cell? ⟨(w.heap.size+1),1,none⟩=vf.cell? ⟨(w.heap.size+1),1,none⟩∧w'.cell? ⟨(w.heap.size+1),2,none⟩=vf.cell? ⟨(w.heap.size+1),2,none⟩)) (by kernel_rfl) ?_ (fun hHeld=>?_)
 · (try dsimp only)
   exact ⟨rfl,rfl,rfl,rfl,rfl,rfl,rfl,rfl,rfl⟩
 obtain ⟨wdl,hwdl⟩:=eX vf.drew
 have bdl:Hid (Below vf.heap.size vf wdl):=hid (by rw [hwdl];exact ⟨rfl,rfl,rfl,nL _,fun _ _=>rfl⟩)
 rw [←hwdl] at hHeld ⊢
 clear hwdl
 have hSofl:Hid (∀ z:World,Below wdl.heap.size wdl z→z.cell? ⟨rb,ro+n*3,none⟩=vf.cell? ⟨rb,ro+n*3,none⟩∧z.cell? ⟨rb,ro+n*3+1,none⟩=vf.cell? ⟨rb,ro+n*3+1,none⟩∧z.cell? ⟨rb,ro+n*3+2,none⟩=vf.cell? ⟨rb,ro+n*3+2,none⟩∧z.cell? ⟨w.heap.size,6,none⟩=vf.cell? ⟨w.heap.size,6,none⟩∧z.cell? ⟨w.heap.size,7,none⟩=vf.cell? ⟨w.heap.size,7,none⟩∧z.cell? ⟨w.heap.size,8,none⟩=vf.cell? ⟨w.heap.size,8,none⟩∧z.cell? ⟨(w.heap.size+1),0,none⟩=vf.cell? ⟨(w.heap.size+1),0,none⟩∧z.cell? ⟨(w.heap.size+1),1,none⟩=vf.cell? ⟨(w.heap.size+1),1,none⟩∧z.cell? ⟨(w.heap.size+1),2,none⟩=vf.cell? ⟨(w.heap.size+1),2,none⟩):=hid (fun z hz=>by
   have k:=bS bdl.out hz
   exact ⟨k.cell (p:=⟨rb,ro+n*3,none⟩) lrbl,k.cell (p:=⟨rb,ro+n*3+1,none⟩) lrbl,k.cell (p:=⟨rb,ro+n*3+2,none⟩) lrbl,k.cell (p:=⟨w.heap.size,6,none⟩) lpl,k.cell (p:=⟨w.heap.size,7,none⟩) lpl,k.cell (p:=⟨w.heap.size,8,none⟩) lpl,k.cell (p:=⟨(w.heap.size+1),0,none⟩) lml,k.cell (p:=⟨(w.heap.size+1),1,none⟩) lml,k.cell (p:=⟨(w.heap.size+1),2,none⟩) lml⟩)
 refine tk (i:=0) (h:=?_)
 try simp only [Act.put,lt,ly,lu]
 refine tk (i:=1) (h:=?_)
 try simp only [Act.put,lt,ly,lu]
 refine tk (i:=2) (h:=?_)
 try simp only [Act.put,lt,ly,lu]
 refine tk (i:=3) (h:=?_)
 try simp only [Act.put,lt,ly,lu]
 refine tk (i:=4) (h:=?_)
 try simp only [Act.put,lt,ly,lu]
 refine tk (i:=5) (h:=?_)
 try simp only [Act.put,lt,ly,lu]
 refine tk (i:=7) (h:=?_)
 try simp only [Act.put,lt,ly,lu]
 clear hHeld
 refine AK (base:=1) [jc 6 32 [] (fun V U=>Ay' U V xl yl) [],jc 8 34 [] (fun V U=>Ay' U V m m) [],jc 9 35 [6,8] (fun V U=>Ay' U V l0 l1) [],ja 10 11 (.cells #[.bool false,.slice none 0 0,.slice none 0 0,.bool false,.slice none 0 0,.slice none 0 0] 45)] (by kernel_rfl) hSofl.out ⟨fun _ _=>⟨rfl,rfl⟩,fun _ _=>⟨rfl,rfl⟩,fun _ _=>⟨rfl,rfl⟩,fun _ _=>⟨rfl,rfl⟩,trivial⟩ ⟨fun _ _ _ _ h hb=>h.keep hb,fun _ _ _ _ h hb=>h.keep hb,fun _ _ _ _ h hb=>h.keep hb,B4' _ _ _,trivial⟩ ⟨trivial,trivial,trivial,trivial,trivial⟩ ⟨?_,?_,?_,?_,trivial⟩ ?_
 · refine Aj' (h:=fun lv lb U HB hd K hK=>?_)
   simp only [W,Ae,Af',zfa,zfb,zfc,zfd,zfe,Job.ws,jc,jt,jf,ja,jl,zff,zfg,Ag',Act.put,lt,ly,lu]
   go_simp
   go_at_call 47
   refine (Dx' exl.out eyl.out (hzz.out.keep (bS B1.out (bS bdl.out HB))) (hpe.out.keep (bS B1.out (bS bdl.out HB))) (nT sz.out (by omega)) (nT sr.out (by omega))).mono ?_
   rintro eK u9 ⟨V,rfl,kk,b9⟩
   exact hK.out V 0 u9 _ b9 nofun kk (by kernel_rfl)
 · refine Aj' (h:=fun lv lb U HB hd K hK=>?_)
   simp only [W,Ae,Af',zfa,zfb,zfc,zfd,zfe,Job.ws,jc,jt,jf,ja,jl,zff,zfg,Ag',Act.put,lt,ly,lu]
   go_simp
   go_at_call 48
   refine (C0' (hm.out.keep (bS B1.out (bS bdl.out HB)))).mono ?_
   rintro eK u9 ⟨V,rfl,kk,b9⟩
   exact hK.out V 0 u9 _ b9 nofun kk (by kernel_rfl)
 · refine Aj' (h:=fun lv lb U HB hd K hK=>?_)
   have k6:Ay' U (lv 6) xl yl:=hd.1 rfl
   have k8:Ay' U (lv 8) m m:=hd.2.1 rfl
   simp only [W,Ae,Af',zfa,zfb,zfc,zfd,zfe,Job.ws,jc,jt,jf,ja,jl,zff,zfg,Ag',Act.put,lt,ly,lu]
   go_simp
   go_at_call 46
   refine (Dv' el0.out el1.out k6 k8 (nT tl1.out (by omega)) (nT tl2.out (by omega)) (nT sm.out (by omega)) (nT sm.out (by omega))).mono ?_
   rintro eK u9 ⟨V,rfl,kk,b9⟩
   exact hK.out V 0 u9 _ b9 nofun kk (by kernel_rfl)
 · refine Cl' (h:=fun lv lb U=>⟨by rfl,?_⟩)
   simp only [W,Ae,Af',zfa,zfb,zfc,zfd,zfe,Job.ws,jc,jt,jf,ja,jl,zff,zfg,Ag',Act.put,lt,ly,lu]
   go_simp
 intro lv lb ul HBl hF hD
 have kl6:=hF.1.1
 have kl8:=hF.2.1.1
 have kl9:=hF.2.2.1.1
 have kl10:=hF.2.2.2.1.1
 have ll10:=hF.2.2.2.1.2 rfl
 clear hF hD
 simp only [W,Ae,Af',zfa,zfb,zfc,zfd,zfe,Job.ws,jc,jt,jf,ja,jl,zff,zfg,Ag',Act.put,lt,ly,lu]
 replace kl6:Ay' ul (lv 6) xl yl:=kl6
 replace kl8:Ay' ul (lv 8) m m:=kl8
 replace kl9:Ay' ul (lv 9) l0 l1:=kl9
 replace kl10:ul.heap[lb 10]?=some (.cells #[.bool false,.slice none 0 0,.slice none 0 0,.bool false,.slice none 0 0,.slice none 0 0] 45):=kl10
 replace ll10:wdl.heap.size≤lb 10:=ll10
 generalize lb 10=bl10 at *
 generalize lv 6=vl6 at *
 generalize lv 8=vl8 at *
 generalize lv 9=vl9 at *
 clear lv lb
 obtain ⟨Al,cl,Bl,dl,El,el,Gl,gl,rfl,-,-,-,-⟩:=id kl9.opened
 refine BA' (fun i=>i==11) (by kernel_rfl) (fun i hp=>?_)
 obtain rfl:=beq_iff_eq.1 hp
 clear hp
 refine AllReadyH.cons (o:=?o11) ?e11 ?k11 AllReadyH.nil
 case e11=>simp only [lg,lz,ls] <;> rfl
 intro K hK
 have D11:=kl10
 obtain ⟨q0,q1,q2,q3,q4,q5⟩:=Aj D11
 have F0:=fR ul bl10 0 _ _ D11
 have F1:=fR ul bl10 1 _ _ D11
 have F2:=fR ul bl10 2 _ _ D11
 have F3:=fR ul bl10 3 _ _ D11
 have F4:=fR ul bl10 4 _ _ D11
 have F5:=fR ul bl10 5 _ _ D11
 go_simp
 clear q0 F0 q1 F1 q2 F2 q3 F3 q4 F4 q5 F5
 obtain ⟨vl,hw⟩:=eX (((((((ul.setCell ⟨bl10,0,none⟩ (.bool (decide (l0.num<0)))).setCell ⟨bl10,1,none⟩ (.slice Al (len l0.num.natAbs) cl)).setCell ⟨bl10,2,none⟩ (.slice Bl (len l0.den) dl)).setCell ⟨bl10,3,none⟩ (.bool (decide (l1.num<0)))).setCell ⟨bl10,4,none⟩ (.slice El (len l1.num.natAbs) el)).setCell ⟨bl10,5,none⟩ (.slice Gl (len l1.den) gl)))
 obtain ⟨El,OT,LV,BL⟩:=AF D11 hw
 rw [←hw]
 clear hw
 have HEl:=BL _ _ ll10 HBl
 have kl9_11:=LV.rbox kl9
 refine hK.out _ _ (hSofl.out _ HEl) (fun hAnon=>?_)
 clear hAnon hK K OT LV BL D11
 try simp only [Act.put,lt,ly,lu]
 refine wpAnyH_done (by kernel_rfl) ?_ _
 have Bl:=hid (bS bdl.out HEl)
 have B2:=hid (bS B1.out Bl.out)
 clear hSofl p6 p7 p8 m0 m1 m2 x0 x1 x2
 have R2:=hid El
 clear El
 have R1':=hid (Ab' R1.out Bl.out)
 have K1:=hid (kf8_10.keep Bl.out)
 have K2:=hid kl9_11
 have H3:=hid (Ab' G3.out Bl.out)
 go_upto_region 4 with fail
 have lbx:=Al' R1'.out
 obtain ⟨y0,y1,y2,y3,y4,y5⟩:=Aj R1'.out
 go_wp2_with fail
 refine wp_region_held_drew (S:=(fun w'=>w'.cell? ⟨bf9,0,none⟩=vl.cell? ⟨bf9,0,none⟩∧w'.cell? ⟨bf9,1,none⟩=vl.cell? ⟨bf9,1,none⟩∧w'.cell? ⟨bf9,2,none⟩=vl.cell? ⟨bf9,2,none⟩∧w'.cell? ⟨bf9,3,none⟩=vl.cell? ⟨bf9,3,none⟩∧w'.cell? ⟨bf9,4,none⟩=vl.cell? ⟨bf9,4,none⟩∧w'.cell? ⟨bf9,5,none⟩=vl.cell? ⟨bf9,5,none⟩)) (by kernel_rfl) ?_ (fun hHeld=>?_)
 · (try dsimp only)
   exact ⟨rfl,rfl,rfl,rfl,rfl,rfl⟩
 obtain ⟨wdh,hwdh⟩:=eX vl.drew
 have bdh:Hid (Below vl.heap.size vl wdh):=hid (by rw [hwdh];exact ⟨rfl,rfl,rfl,nL _,fun _ _=>rfl⟩)
 rw [←hwdh] at hHeld ⊢
 clear hwdh
 have hSofh:Hid (∀ z:World,Below wdh.heap.size wdh z→z.cell? ⟨bf9,0,none⟩=vl.cell? ⟨bf9,0,none⟩∧z.cell? ⟨bf9,1,none⟩=vl.cell? ⟨bf9,1,none⟩∧z.cell? ⟨bf9,2,none⟩=vl.cell? ⟨bf9,2,none⟩∧z.cell? ⟨bf9,3,none⟩=vl.cell? ⟨bf9,3,none⟩∧z.cell? ⟨bf9,4,none⟩=vl.cell? ⟨bf9,4,none⟩∧z.cell? ⟨bf9,5,none⟩=vl.cell? ⟨bf9,5,none⟩):=hid (fun z hz=>by
   have k:=bS bdh.out hz
   exact ⟨k.cell (p:=⟨bf9,0,none⟩) lbx,k.cell (p:=⟨bf9,1,none⟩) lbx,k.cell (p:=⟨bf9,2,none⟩) lbx,k.cell (p:=⟨bf9,3,none⟩) lbx,k.cell (p:=⟨bf9,4,none⟩) lbx,k.cell (p:=⟨bf9,5,none⟩) lbx⟩)
 refine tk (i:=0) (h:=?_)
 try simp only [Act.put,lt,ly,lu]
 clear hHeld
 refine AK (base:=0) [jc 1 37 [] (fun V U=>Ah U V o) [],jf 2 38 [1] (.bool t) []] (by kernel_rfl) hSofh.out ⟨fun _ _=>⟨rfl,rfl⟩,fun _ _=>⟨rfl,rfl⟩,trivial⟩ ⟨fun _ _ _ _ h hb=>h.keep hb,fun _ _ _ _ h _=>h,trivial⟩ ⟨trivial,trivial,trivial⟩ ⟨?_,?_,trivial⟩ ?_
 · refine Aj' (h:=fun lv lb U HB hd K hK=>?_)
   simp only [W,Ae,Af',zfa,zfb,zfc,zfd,zfe,Job.ws,jc,jt,jf,ja,jl,zff,zfg,Ag',Act.put,lt,ly,lu]
   go_simp
   go_at_call 13
   refine (BQ (w:=U) eo.out (by omega) (by omega)).mono ?_
   rintro eK u9 ⟨V,rfl,kk,b9⟩
   exact hK.out V 0 u9 _ b9 nofun kk (by kernel_rfl)
 · refine Aj' (h:=fun lv lb U HB hd K hK=>?_)
   have k1:Ah U (lv 1) o:=hd.1 rfl
   simp only [W,Ae,Af',zfa,zfb,zfc,zfd,zfe,Job.ws,jc,jt,jf,ja,jl,zff,zfg,Ag',Act.put,lt,ly,lu]
   go_simp
   go_at_call 49
   refine (H2' dH.out (K1.out.keep (bS bdh.out HB)) k1 (nT tg0.out (by omega)) (nT tg1.out (by omega)) (nT so.out (by omega))).mono ?_
   rintro eK u9 ⟨rfl,b9⟩
   exact hK.out undef 0 u9 _ b9 nofun trivial (by kernel_rfl)
 intro lv lb uh HBh hF hD
 have kh1:=hF.1.1
 clear hF hD
 simp only [W,Ae,Af',zfa,zfb,zfc,zfd,zfe,Job.ws,jc,jt,jf,ja,jl,zff,zfg,Ag',Act.put,lt,ly,lu]
 replace kh1:Ah uh (lv 1) o:=kh1
 generalize lv 1=vh1 at *
 clear lv lb
 refine wpAnyH_done (by kernel_rfl) ?_ _
 have Bh:=hid (bS bdh.out HBh)
 have B3:=hid (bS B2.out Bh.out)
 clear hSofh y0 y1 y2 y3 y4 y5
 cases t
 · have h00:¬ (x - m - r≤0∧0≤x - m+r):=of_decide_eq_false ht.out
   replace E0:=E0.out
   replace E1:=E1.out
   replace E2:=E2.out
   replace E3:=E3.out
   have h0:=h00
   rw [←E0,←E1] at h0
   replace eLo:=eLo.out
   replace eHi:=eHi.out
   replace hk:=hk.out
   rw [if_neg h00] at hk
   rw [←E0,←E1,←E2,←E3] at eLo eHi
   have tg0_:=tg0.out
   have tg1_:=tg1.out
   have tl0_:=tl0.out
   have tl3_:=tl3.out
   have ss_:=ss.out
   have hc0:g0≠0:=fun h=>h0 ⟨by rw [h];exact Rat.le_refl,by grind⟩
   have hd0:g1≠0:=fun h=>h0 ⟨by grind,by rw [h];exact Rat.le_refl⟩
   obtain ⟨i1,ei1⟩:=eY (((1:Int):Rat):Rat)
   obtain ⟨f9,ef9⟩:=eY (i1 - s:Rat)
   obtain ⟨f,ePw⟩:=eY (f9^n:Rat)
   have Ef:(1 - s)^n=f:=by rw [←ePw,←ef9,←ei1];rfl
   rw [Ef] at hk
   obtain ⟨c9,e9⟩:=eY (cmpQ lo f:Int)
   obtain ⟨c8,e8⟩:=eY (cmpQ hi f:Int)
   have si:Aa' i1≤3:=by rw [←ei1];decide
   have sf9:Aa' f9≤1000:=by rw [←ef9];have:=Vx.AC' i1 s;omega
   have sf:Aa' f≤16777216:=by rw [←ePw];have h9:=DG' f9 n;have:Aa' f9*n≤1000*64:=Nat.mul_le_mul sf9 hn2;omega
   have sl:Aa' lo≤16777216∧Aa' hi≤16777216:=by
     have hL:=DE' (l0 / g0) [l0 / g1,l1 / g0,l1 / g1]
     have hG:=CK (l0 / g0) [l0 / g1,l1 / g0,l1 / g1]
     rw [eLo] at hL
     rw [eHi] at hG
     have all:∀ q∈l0 / g0::[l0 / g1,l1 / g0,l1 / g1],Aa' q≤16777216:=by
       intro q hq
       simp only [List.mem_cons,List.not_mem_nil,or_false] at hq
       have b1:=Vx.AZ l0 g0
       have b2:=Vx.AZ l0 g1
       have b3:=Vx.AZ l1 g0
       have b4:=Vx.AZ l1 g1
       rcases hq with rfl | rfl | rfl | rfl <;> omega
     exact ⟨all _ hL.1,all _ hG.1⟩
   replace eLo:=hid eLo
   replace eHi:=hid eHi
   replace hc0:=hid hc0
   replace hd0:=hid hd0
   replace ei1:=hid ei1
   replace ef9:=hid ef9
   replace ePw:=hid ePw
   replace e9:=hid e9
   replace e8:=hid e8
   replace si:=hid si
   replace sf9:=hid sf9
   replace sf:=hid sf
   replace sl:=hid sl
   replace hk:=hid hk
   clear Ef E0 E1 E2 E3 h0 h00 tg0_ tg1_ tl0_ tl3_ ss_
   have Q1:=hid (Ab' R1'.out Bh.out)
   have Q2:=hid (Ab' R2.out Bh.out)
   have L1:=hid (K1.out.keep Bh.out)
   have L2:=hid (K2.out.keep Bh.out)
   have I3:=hid (Ab' H3.out Bh.out)
   obtain ⟨y0,y1,y2,y3,y4,y5⟩:=Aj Q1.out
   obtain ⟨n0,n1_,n2,n3,n4,n5⟩:=Aj Q2.out
   have HX:=hid (FH' hc0.out hd0.out eLo.out eHi.out L2.out L1.out tl0.out tl3.out tg0.out tg1.out)
   go_wp2_with fail
   refine (HX.out).mono ?_
   rintro e w5 ⟨v5,rfl,hv5,b5⟩
   clear HX y0 y1 y2 y3 y4 y5 n0 n1_ n2 n3 n4 n5
   obtain ⟨Av,cv,Bv,dv,Ev,ev,Gv,gv,rfl,-,-,-,-⟩:=id hv5.opened
   go_upto_region 7 with fail
   obtain ⟨w6,hw6⟩:=eX (w5.alloc (.cells #[.bool (decide (lo.num<0)),.slice Av (len lo.num.natAbs) cv,.slice Bv (len lo.den) dv,.bool (decide (hi.num<0)),.slice Ev (len hi.num.natAbs) ev,.slice Gv (len hi.den) gv] 45))
   have b6:=hid (AO' hw6)
   have L6:=hid (AR' hw6)
   rw [←hw6]
   clear hw6
   have B6_:=hid (bS b5 b6.out)
   have B7:=hid (bS B3.out B6_.out)
   have hD:=hid (hv5.keep b6.out)
   have J3:=hid (Ab' I3.out B6_.out)
   have ls:=Al' J3.out
   obtain ⟨s0,s1,s2⟩:=Ad' J3.out
   go_wp2_with fail
   refine wp_region_held_drew (S:=(fun w'=>w'.cell? ⟨(w.heap.size+2),0,none⟩=w6.cell? ⟨(w.heap.size+2),0,none⟩∧w'.cell? ⟨(w.heap.size+2),1,none⟩=w6.cell? ⟨(w.heap.size+2),1,none⟩∧w'.cell? ⟨(w.heap.size+2),2,none⟩=w6.cell? ⟨(w.heap.size+2),2,none⟩)) (by kernel_rfl) ?_ (fun hHeld=>?_)
   · (try dsimp only)
     exact ⟨rfl,rfl,rfl⟩
   obtain ⟨wdp,hwdp⟩:=eX w6.drew
   have bdp:Hid (Below w6.heap.size w6 wdp):=hid (by rw [hwdp];exact ⟨rfl,rfl,rfl,nL _,fun _ _=>rfl⟩)
   rw [←hwdp] at hHeld ⊢
   clear hwdp
   have hSofp:Hid (∀ z:World,Below wdp.heap.size wdp z→z.cell? ⟨(w.heap.size+2),0,none⟩=w6.cell? ⟨(w.heap.size+2),0,none⟩∧z.cell? ⟨(w.heap.size+2),1,none⟩=w6.cell? ⟨(w.heap.size+2),1,none⟩∧z.cell? ⟨(w.heap.size+2),2,none⟩=w6.cell? ⟨(w.heap.size+2),2,none⟩):=hid (fun z hz=>by
     have k:=bS bdp.out hz
     exact ⟨k.cell (p:=⟨(w.heap.size+2),0,none⟩) ls,k.cell (p:=⟨(w.heap.size+2),1,none⟩) ls,k.cell (p:=⟨(w.heap.size+2),2,none⟩) ls⟩)
   refine tk (i:=1) (h:=?_)
   try simp only [Act.put,lt,ly,lu]
   refine tk (i:=3) (h:=?_)
   try simp only [Act.put,lt,ly,lu]
   clear hHeld
   refine AK (base:=1) [jc 0 42 [] (fun V U=>Ah U V i1) [],jc 2 44 [0] (fun V U=>Ah U V f9) [],jc 4 46 [2] (fun V U=>Ah U V f) [],ja 5 13 (.cells #[.bool false,.slice none 0 0,.slice none 0 0] 43)] (by kernel_rfl) hSofp.out ⟨fun _ _=>⟨rfl,rfl⟩,fun _ _=>⟨rfl,rfl⟩,fun _ _=>⟨rfl,rfl⟩,fun _ _=>⟨rfl,rfl⟩,trivial⟩ ⟨fun _ _ _ _ h hb=>h.keep hb,fun _ _ _ _ h hb=>h.keep hb,fun _ _ _ _ h hb=>h.keep hb,B4' _ _ _,trivial⟩ ⟨trivial,trivial,trivial,trivial,trivial⟩ ⟨?_,?_,?_,?_,trivial⟩ ?_
   · refine Aj' (h:=fun lv lb U HB hd K hK=>?_)
     simp only [W,Ae,Af',zfa,zfb,zfc,zfd,zfe,Job.ws,jc,jt,jf,ja,jl,zff,zfg,Ag',Act.put,lt,ly,lu]
     go_simp
     go_at_call 13
     refine (BQ (w:=U) ei1.out (by omega) (by omega)).mono ?_
     rintro eK u9 ⟨V,rfl,kk,b9⟩
     exact hK.out V 0 u9 _ b9 nofun kk (by kernel_rfl)
   · refine Aj' (h:=fun lv lb U HB hd K hK=>?_)
     have k0:Ah U (lv 0) i1:=hd.1 rfl
     simp only [W,Ae,Af',zfa,zfb,zfc,zfd,zfe,Job.ws,jc,jt,jf,ja,jl,zff,zfg,Ag',Act.put,lt,ly,lu]
     go_simp
     go_at_call 52
     refine (Fh ef9.out k0 (hs.out.keep (bS B7.out (bS bdp.out HB))) (nT si.out (by omega)) (nT ss.out (by omega))).mono ?_
     rintro eK u9 ⟨V,rfl,kk,b9⟩
     exact hK.out V 0 u9 _ b9 nofun kk (by kernel_rfl)
   · refine Aj' (h:=fun lv lb U HB hd K hK=>?_)
     have k2:Ah U (lv 2) f9:=hd.2.1 rfl
     simp only [W,Ae,Af',zfa,zfb,zfc,zfd,zfe,Job.ws,jc,jt,jf,ja,jl,zff,zfg,Ag',Act.put,lt,ly,lu]
     go_simp
     go_at_call 51
     refine (H8' ePw.out k2 (nT sf9.out (by omega)) hn2).mono ?_
     rintro eK u9 ⟨V,rfl,kk,b9⟩
     exact hK.out V 0 u9 _ b9 nofun kk (by kernel_rfl)
   · refine Cl' (h:=fun lv lb U=>⟨by rfl,?_⟩)
     simp only [W,Ae,Af',zfa,zfb,zfc,zfd,zfe,Job.ws,jc,jt,jf,ja,jl,zff,zfg,Ag',Act.put,lt,ly,lu]
     go_simp
   intro lv lb up HBp hF hD
   have kp0:=hF.1.1
   have kp2:=hF.2.1.1
   have kp4:=hF.2.2.1.1
   have kp5:=hF.2.2.2.1.1
   have lp5:=hF.2.2.2.1.2 rfl
   clear hF hD
   simp only [W,Ae,Af',zfa,zfb,zfc,zfd,zfe,Job.ws,jc,jt,jf,ja,jl,zff,zfg,Ag',Act.put,lt,ly,lu]
   replace kp0:Ah up (lv 0) i1:=kp0
   replace kp2:Ah up (lv 2) f9:=kp2
   replace kp4:Ah up (lv 4) f:=kp4
   replace kp5:up.heap[lb 5]?=some (.cells #[.bool false,.slice none 0 0,.slice none 0 0] 43):=kp5
   replace lp5:wdp.heap.size≤lb 5:=lp5
   generalize lb 5=bp5 at *
   generalize lv 0=vp0 at *
   generalize lv 2=vp2 at *
   generalize lv 4=vp4 at *
   clear lv lb
   obtain ⟨Ap,cp,Bp,dp,rfl,-,-⟩:=id kp4.opened
   refine BA' (fun i=>i==6) (by kernel_rfl) (fun i hp=>?_)
   obtain rfl:=beq_iff_eq.1 hp
   clear hp
   refine AllReadyH.cons (o:=?o6) ?e6 ?k6 AllReadyH.nil
   case e6=>simp only [lg,lz,ls] <;> rfl
   intro K hK
   have D6:=kp5
   obtain ⟨q0,q1,q2⟩:=Ad' D6
   have F0:=fR up bp5 0 _ _ D6
   have F1:=fR up bp5 1 _ _ D6
   have F2:=fR up bp5 2 _ _ D6
   go_simp
   clear q0 F0 q1 F1 q2 F2
   obtain ⟨vp,hw⟩:=eX ((((up.setCell ⟨bp5,0,none⟩ (.bool (decide (f.num<0)))).setCell ⟨bp5,1,none⟩ (.slice Ap (len f.num.natAbs) cp)).setCell ⟨bp5,2,none⟩ (.slice Bp (len f.den) dp)))
   obtain ⟨Ep,OT,LV,BL⟩:=AE D6 hw
   rw [←hw]
   clear hw
   have HEp:=BL _ _ lp5 HBp
   have kp4_6:=LV.rat kp4
   refine hK.out _ _ (hSofp.out _ HEp) (fun _=>?_)
   clear hK K OT LV BL D6
   try simp only [Act.put,lt,ly,lu]
   refine wpAnyH_done (by kernel_rfl) ?_ _
   have Bp:=hid (bS bdp.out HEp)
   have B8:=hid (bS B7.out Bp.out)
   clear hSofp s0 s1 s2
   have RF:=hid Ep
   clear Ep
   have KF:=hid kp4_6
   have RD:=hid (Ab' L6.out Bp.out)
   have KD:=hid (hD.out.keep Bp.out)
   have KL:=hid (Do' KD.out)
   have KH:=hid (Dp KD.out)
   obtain ⟨y0,y1,y2,y3,y4,y5⟩:=Aj RD.out
   obtain ⟨n0,n1_,n2⟩:=Ad' RF.out
   have HX:=hid (A4' e9.out KL.out KF.out (nT sl.out.1 (by omega)) (nT sf.out (by omega)))
   go_wp2_with fail
   refine (HX.out).mono ?_
   rintro e w9 ⟨rfl,b9⟩
   clear HX
   rcases Decidable.em (f≤lo) with hyes | hyes
   · have d9:decide (c9≥0)=true:=dT_ (by rw [←e9.out];exact Int.not_lt.1 (fun h=>absurd hyes (Rat.not_le.2 (cmpQ_lt0.1 h))))
     have hk1:k=1:=by rw [←hk.out,if_pos hyes]
     subst hk1
     have FB:=hid (bS B8.out b9)
     go_wp2_with fail
     go_ret
     exact ⟨rfl,FB.out⟩
   · have d9:decide (c9≥0)=false:=dF_ (by rw [←e9.out];have:=cmpQ_lt0.2 (Rat.not_le.1 hyes);omega)
     have B9:=hid (bS B8.out b9)
     obtain ⟨y0,y1,y2,y3,y4,y5⟩:=Aj (Ab' RD.out b9)
     obtain ⟨n0,n1_,n2⟩:=Ad' (Ab' RF.out b9)
     have HX:=hid (A4' e8.out (KH.out.keep b9) (KF.out.keep b9) (nT sl.out.2 (by omega)) (nT sf.out (by omega)))
     go_wp2_with fail
     refine (HX.out).mono ?_
     rintro e w10 ⟨rfl,b10⟩
     clear HX
     have FB:=hid (bS B9.out b10)
     rcases Decidable.em (hi<f) with hno | hno
     · have d8:decide (c8<0)=true:=dT_ (by rw [←e8.out];exact cmpQ_lt0.2 hno)
       have hk2:k=2:=by rw [←hk.out,if_neg hyes,if_pos hno]
       subst hk2
       go_wp2_with fail
       go_ret
       exact ⟨rfl,FB.out⟩
     · have d8:decide (c8<0)=false:=dF_ (by rw [←e8.out];intro h;exact hno (cmpQ_lt0.1 h))
       have hk3:k=3:=by rw [←hk.out,if_neg hyes,if_neg hno]
       subst hk3
       go_wp2_with fail
       go_ret
       exact ⟨rfl,FB.out⟩
 · have hk0:k=0:=by rw [←hk.out,if_pos (of_decide_eq_true ht.out)]
   subst hk0
   go_wp2_with fail
   go_ret
   exact ⟨rfl,B3.out⟩
def AQ (w:World) (ad:Option Addr) (l:List (Int × Nat)):Prop:=∀ (i:Nat) (x:Int × Nat),l[i]?=some x→∃ b o,ad=some ⟨b,o,none⟩∧w.cell? ⟨b,o+i*2,none⟩=some (.int .i32 x.1)∧w.cell? ⟨b,o+i*2+1,none⟩=some (.int .u8 ((x.2:Nat):Int))
theorem AQ.keep {w w':World} {ad:Option Addr} {l:List (Int × Nat)} (h:AQ w ad l) (hb:Below w.heap.size w w'):AQ w' ad l:=fun i x hi=>by
 obtain ⟨b,o,h1,h2,h3⟩:=h i x hi
 have hl:=bL _ _ h2
 exact ⟨b,o,h1,(hb.cell (p:=⟨b,o+i*2,none⟩) hl).trans h2,(hb.cell (p:=⟨b,o+i*2+1,none⟩) hl).trans h3⟩
def Bg (l:List (Int × Nat)):Prop:=∀ x∈l,(-2147483648≤x.1∧x.1≤2147483647)∧x.2≤255
def Aw' (l:List (Int × Nat)):List Rat:=l.map fun x=>As x.1 x.2
def Em (w:World) (I:World→Value→Rat→Prop) (T:TypeId) (l:List (Int × Nat)) (k:Nat) (vs:Value) (wr:World):Prop:=A5' I T w.heap.size wr vs (Aw' (l.take k))∧Below w.heap.size w wr
theorem Hg' {w:World} {ad:Option Addr} {c n:Nat} {l:List (Int × Nat)} (hl:AQ w ad l) (hok:Bg l) (hn:n=l.length) (hn2:n≤1000) :
   Calls Tryz.prog 8 #[.slice ad n c] w (fun e w'=>∃ v,e=.returned v∧(∃ g cap,v=.slice (some ⟨g,0,none⟩) n cap∧AG w' g 0 (Aw' l))∧Below w.heap.size w w'):=by
 replace hl:=hid hl
 replace hok:=hid hok
 replace hn:=hid hn
 replace hn2:=hid hn2
 go_enter Tryz.func8,Tryz.ntmps8
 go_upto_region 1 with fail
 go_upto_region 2 with fail
 obtain ⟨w1,hw1⟩:=eX (w.alloc (.cells #[] 35))
 have HE:Hid (Em w Ac' 35 l 0 (.slice (some ⟨w.heap.size,0,none⟩) 0 0) w1):=by
   have h1:=Fi (I:=Ac') (T:=35) (w:=w) (nL w.heap.size)
   rw [hw1]
   exact hid ⟨h1,Am' w _⟩
 rw [←hw1]
 clear hw1
 go_wp2_with fail
 go_loopw [3,4] (fun vs iv wr=>∃ k:Nat,k≤n∧iv=.int .i64 ((k:Nat):Int)∧Hid (Em w Ac' 35 l k vs wr)) (fun _ iv _=>n - (intOf iv).toNat)
 case atStart=>exact ⟨0,Nat.zero_le _,rfl,HE⟩
 case round =>
   obtain ⟨k,hk,rfl,hrel⟩:=hrel
   clear HE
   have hkb:k≤1000:=by have:=hn2.out;omega
   rcases Nat.lt_or_ge k n with hkn | hkn
   · have hin:decide (k<n)=true:=dT_ hkn
     have hwk:IntKind.i64.wrap (((k:Nat):Int)+1)=((k:Nat):Int)+1:=by
       unfold IntKind.wrap
       simp [IntKind.bits,IntKind.signed]
       omega
     obtain ⟨HG,HB⟩:=hrel.out
     clear hrel
     obtain ⟨x,hx⟩:∃ x,l[k]?=some x:=⟨l[k]'(by rw [←hn.out];exact hkn),by simp⟩
     obtain ⟨b,o,rfl,c0,c1⟩:=(hl.out.keep HB) k x hx
     have kx:=hok.out x (List.mem_of_getElem? hx)
     have hstep:Aw' (l.take k)++[As x.1 x.2]=Aw' (l.take (k+1)):=by
       unfold Aw'
       rw [List.take_succ,hx]
       simp
     have hlen:(Aw' (l.take k)).length=k:=by
       unfold Aw'
       rw [List.length_map,List.length_take,←hn.out]
       omega
     obtain ⟨M,D⟩:=x
     simp only at c0 c1 kx hstep
     obtain ⟨q,eq⟩:=eY (As M D)
     rw [eq] at hstep
     replace HG:=hid HG
     replace HB:=hid HB
     replace kx:=hid kx
     replace hstep:=hid hstep
     replace hlen:=hid hlen
     replace eq:=hid eq
     replace hx:=hid hx
     have HX:=hid (Bw (w:=wr) kx.out.1.1 kx.out.1.2 kx.out.2 eq.out)
     go_wp2_with fail
     refine (HX.out).mono ?_
     rintro e w3 ⟨v3,rfl,hv3,b3⟩
     obtain ⟨C1,j1,C2,j2,rfl,-,-⟩:=id hv3.opened
     replace hv3:=hid hv3
     replace b3:=hid b3
     clear HX
     obtain ⟨w4,hw4⟩:=eX (w3.alloc (.cells #[.bool (decide (q.num<0)),.slice C1 (Vx.len q.num.natAbs) j1,.slice C2 (Vx.len (below q.den)) j2] 35))
     have b4:=hid (AO' hw4)
     have L4:=hid (AR' hw4)
     have bb:=bS b3.out b4.out
     have HG4:=hid (HG.out.keep bb (fun _ _ h=>h.keep bb))
     have HB4:=hid (Ae' HB.out bb)
     have HQ:=hid (hv3.out.keep b4.out)
     have l56:=hid (show ((Aw' (l.take k)).length+1)*56≤140737488355328 by rw [hlen.out];omega)
     have lM:=hid (show (Aw' (l.take k)).length+1≤maxLen by rw [hlen.out];unfold maxLen;omega)
     replace hw4:=hid hw4
     clear bb b3 b4 hv3 HG HB c0 c1
     go_wp2_with (at_builtin;refine wpList_plain rfl fun K hK=>?_;rw [←hw4.out];refine FQ' rfl (e:=35) Tryz.underlying54 FR' FR rfl HG4.out rfl L4.out HQ.out l56.out lM.out HB4.out.size ?_;intro ov2 v2 hG2 LV GR hO;refine hK _ _ ?_;clear hK K)
     rw [hstep.out] at hG2
     have HR2:Hid (Em w Ac' 35 l (k+1) ov2 v2):=hid ⟨hG2,Below.grown HB4.out GR HB4.out.size (fun j hj=>(HG4.out.own j hj).1)⟩
     clear hG2 LV GR hO HG4 HB4 L4 HQ l56 lM hw4
     go_wp2_with fail
     go_roundw
     case rel=>exact ⟨k+1,hkn,by go_num,HR2⟩
     case measure=>simp [intOf];omega
   · obtain rfl:k=n:=Nat.le_antisymm hk hkn
     have hin:decide (k<k)=false:=by simp
     obtain ⟨HG,HB⟩:=hrel.out
     clear hrel
     have hT:l.take k=l:=by rw [hn.out];exact List.take_length
     rw [hT] at HG
     obtain ⟨g,cap,rfl,hns⟩:=HG.nums
     have hlen:(Aw' l).length=k:=by unfold Aw';rw [List.length_map,←hn.out]
     rw [hlen]
     replace hns:=hid hns
     replace HB:=hid HB
     clear HG
     go_wp2_with fail
     refine bP (v:=.slice (some ⟨g,0,none⟩) k cap) ?_ rfl ⟨_,rfl,⟨g,cap,rfl,hns.out⟩,HB.out⟩
     simp [results,Tryz.results8,go_sem]
theorem IW' {w:World} {ad:Option Addr} {c n:Nat} {l:List (Int × Nat)} (hl:AQ w ad l) (hok:Bg l) (hn:n=l.length) (hn2:n≤1000) :
   Calls Tryz.prog 15 #[.slice ad n c] w (fun e w'=>∃ v,e=.returned v∧(∃ g cap,v=.slice (some ⟨g,0,none⟩) n cap∧A3' w' g 0 (Aw' l))∧Below w.heap.size w w'):=by
 replace hl:=hid hl
 replace hok:=hid hok
 replace hn:=hid hn
 replace hn2:=hid hn2
 go_enter Tryz.func15,Tryz.ntmps15
 go_upto_region 1 with fail
 go_upto_region 2 with fail
 obtain ⟨w1,hw1⟩:=eX (w.alloc (.cells #[] 43))
 have HE:Hid (Em w Ah 43 l 0 (.slice (some ⟨w.heap.size,0,none⟩) 0 0) w1):=by
   have h1:=Fi (I:=Ah) (T:=43) (w:=w) (nL w.heap.size)
   rw [hw1]
   exact hid ⟨h1,Am' w _⟩
 rw [←hw1]
 clear hw1
 go_wp2_with fail
 go_loopw [3,4] (fun vs iv wr=>∃ k:Nat,k≤n∧iv=.int .i64 ((k:Nat):Int)∧Hid (Em w Ah 43 l k vs wr)) (fun _ iv _=>n - (intOf iv).toNat)
 case atStart=>exact ⟨0,Nat.zero_le _,rfl,HE⟩
 case round =>
   obtain ⟨k,hk,rfl,hrel⟩:=hrel
   clear HE
   have hkb:k≤1000:=by have:=hn2.out;omega
   rcases Nat.lt_or_ge k n with hkn | hkn
   · have hin:decide (k<n)=true:=dT_ hkn
     have hwk:IntKind.i64.wrap (((k:Nat):Int)+1)=((k:Nat):Int)+1:=by
       unfold IntKind.wrap
       simp [IntKind.bits,IntKind.signed]
       omega
     obtain ⟨HG,HB⟩:=hrel.out
     clear hrel
     obtain ⟨x,hx⟩:∃ x,l[k]?=some x:=⟨l[k]'(by rw [←hn.out];exact hkn),by simp⟩
     obtain ⟨b,o,rfl,c0,c1⟩:=(hl.out.keep HB) k x hx
     have kx:=hok.out x (List.mem_of_getElem? hx)
     have hstep:Aw' (l.take k)++[As x.1 x.2]=Aw' (l.take (k+1)):=by
       unfold Aw'
       rw [List.take_succ,hx]
       simp
     have hlen:(Aw' (l.take k)).length=k:=by
       unfold Aw'
       rw [List.length_map,List.length_take,←hn.out]
       omega
     obtain ⟨M,D⟩:=x
     simp only at c0 c1 kx hstep
     obtain ⟨q,eq⟩:=eY (As M D)
     rw [eq] at hstep
     replace HG:=hid HG
     replace HB:=hid HB
     replace kx:=hid kx
     replace hstep:=hid hstep
     replace hlen:=hid hlen
     replace eq:=hid eq
     replace hx:=hid hx
     have HX:=hid (Bw' (w:=wr) kx.out.1.1 kx.out.1.2 kx.out.2 eq.out)
     go_wp2_with fail
     refine (HX.out).mono ?_
     rintro e w3 ⟨v3,rfl,hv3,b3⟩
     obtain ⟨C1,j1,C2,j2,rfl,-,-⟩:=id hv3.opened
     replace hv3:=hid hv3
     replace b3:=hid b3
     clear HX
     obtain ⟨w4,hw4⟩:=eX (w3.alloc (.cells #[.bool (decide (q.num<0)),.slice C1 (len q.num.natAbs) j1,.slice C2 (len q.den) j2] 43))
     have b4:=hid (AO' hw4)
     have L4:=hid (AR' hw4)
     have bb:=bS b3.out b4.out
     have HG4:=hid (HG.out.keep bb (fun _ _ h=>h.keep bb))
     have HB4:=hid (Ae' HB.out bb)
     have HQ:=hid (hv3.out.keep b4.out)
     have l56:=hid (show ((Aw' (l.take k)).length+1)*56≤140737488355328 by rw [hlen.out];omega)
     have lM:=hid (show (Aw' (l.take k)).length+1≤maxLen by rw [hlen.out];unfold maxLen;omega)
     replace hw4:=hid hw4
     clear bb b3 b4 hv3 HG HB c0 c1
     go_wp2_with (at_builtin;refine wpList_plain rfl fun K hK=>?_;rw [←hw4.out];refine FQ' rfl (e:=43) Tryz.underlying62 IE' IE rfl HG4.out rfl L4.out HQ.out l56.out lM.out HB4.out.size ?_;intro ov2 v2 hG2 LV GR hO;refine hK _ _ ?_;clear hK K)
     rw [hstep.out] at hG2
     have HR2:Hid (Em w Ah 43 l (k+1) ov2 v2):=hid ⟨hG2,Below.grown HB4.out GR HB4.out.size (fun j hj=>(HG4.out.own j hj).1)⟩
     clear hG2 LV GR hO HG4 HB4 L4 HQ l56 lM hw4
     go_wp2_with fail
     go_roundw
     case rel=>exact ⟨k+1,hkn,by go_num,HR2⟩
     case measure=>simp [intOf];omega
   · obtain rfl:k=n:=Nat.le_antisymm hk hkn
     have hin:decide (k<k)=false:=by simp
     obtain ⟨HG,HB⟩:=hrel.out
     clear hrel
     have hT:l.take k=l:=by rw [hn.out];exact List.take_length
     rw [hT] at HG
     obtain ⟨g,cap,rfl,hns⟩:=HG.rats
     have hlen:(Aw' l).length=k:=by unfold Aw';rw [List.length_map,←hn.out]
     rw [hlen]
     replace hns:=hid hns
     replace HB:=hid HB
     clear HG
     go_wp2_with fail
     refine bP (v:=.slice (some ⟨g,0,none⟩) k cap) ?_ rfl ⟨_,rfl,⟨g,cap,rfl,hns.out⟩,HB.out⟩
     simp [results,Tryz.results15,go_sem]
end Go.Proofs.YtflopjfnppolgaaGreatDoor.Rf
