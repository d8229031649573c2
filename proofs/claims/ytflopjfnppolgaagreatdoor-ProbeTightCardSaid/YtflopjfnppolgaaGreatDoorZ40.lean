/-
  Contracts of the functions that the law calls, for every input (Qu Qv).
-/
import Derived.Test.YtflopjfnppolgaaGreatDoorZ00
import Derived.Test.YtflopjfnppolgaaGreatDoorZ39
import Derived.Test.YtflopjfnppolgaaGreatDoorZ35
import Derived.Test.YtflopjfnppolgaaGreatDoorZ37
set_option linter.all false
set_option maxRecDepth 100000
set_option maxHeartbeats 40000000
namespace Go.Proofs.YtflopjfnppolgaaGreatDoor.Rf
open Lib (hid)
open Go.RowKit
open Rx
open Vx (Aa' Ai Ai')
open List renaming flatMap_cons → zfa, flatMap_nil → zfb, append_nil → zfc, nil_append → zfd, cons_append → zfe, foldl_cons → zff, foldl_nil → zfg, getElem?_toArray → lg, getElem?_cons_zero → lz, getElem?_cons_succ → ls, setIfInBounds_toArray → lt, set_cons_zero → ly, set_cons_succ → lu
theorem El' {w:World} {a b r m s x z lo hi:Rat} {rb ro c n n1 bm mp pp:Nat} {l:List Rat} {A7 B7 P1 P2 P3 Q1 Q2 Q3:Option Addr} {c7 d7 p1 p2 p3 q1 q2 q3:Nat} {A4 B4:Option Addr} {c4 d4:Nat} {y0 y2 y3 y5 y8 y9 y10 y13 y14 y15 y16 y17 y18 y19 y20 y21 y22 y23 y24 y25 y26 y27 y28 y29 y30 y31 y32 y33 y34 y35 y36 y37 y38 y39 y40 y41 y42 y43 y44 y45 y46 y47 y48 y49 y50 y51 y52 y53 y54 y55 y56 y57 y58 y59 y60 y61 y62 y63 y64 y65 y66 y67 y68:Value} {k:Int} {Po:Ending→World→Prop} (hl:AG w rb ro l) (hz:l[n]?=some z) (hx0:l[0]?=some x) (hn1:n1=n+1) (hn2:n≤200) (hm:w.heap[bm]?=some (.cells #[.bool (decide (s.num<0)),.slice A4 (Vx.len s.num.natAbs) c4,.slice B4 (Vx.len (below s.den)) d4] 35 (0,0))) (hM:Ac' w (.agg #[.bool (decide (s.num<0)),.slice A4 (Vx.len s.num.natAbs) c4,.slice B4 (Vx.len (below s.den)) d4]) s) (sm:Aa' s≤900000) (hA:w.heap[mp]?=some (.cells #[.bool (decide (m.num<0)),.slice A7 (Vx.len m.num.natAbs) c7,.slice B7 (Vx.len (below m.den)) d7] 35 (0,0))) (hAn:Ac' w (.agg #[.bool (decide (m.num<0)),.slice A7 (Vx.len m.num.natAbs) c7,.slice B7 (Vx.len (below m.den)) d7]) m) (hPp:w.heap[pp]?=some (.cells #[.bool (decide (a.num<0)),.slice P1 (Vx.len a.num.natAbs) p1,.slice Q1 (Vx.len (below a.den)) q1,.bool (decide (b.num<0)),.slice P2 (Vx.len b.num.natAbs) p2,.slice Q2 (Vx.len (below b.den)) q2,.bool (decide (r.num<0)),.slice P3 (Vx.len r.num.natAbs) p3,.slice Q3 (Vx.len (below r.den)) q3] 39 (0,0))) (hPn:Ac' w (.agg #[.bool (decide (r.num<0)),.slice P3 (Vx.len r.num.natAbs) p3,.slice Q3 (Vx.len (below r.den)) q3]) r) (sz:Aa' z≤1000000) (sx:Aa' x≤1000000) (sA:Aa' m≤1000000) (sr:Aa' r≤1000000) (hr0:0≤r) (h0:¬ (x - m - r≤0∧0≤x - m+r)) (el:leastOf ((z - m - r) / (x - m - r)) [(z - m - r) / (x - m+r),(z - m+r) / (x - m - r),(z - m+r) / (x - m+r)]=lo) (eh:greatestOf ((z - m - r) / (x - m - r)) [(z - m - r) / (x - m+r),(z - m+r) / (x - m - r),(z - m+r) / (x - m+r)]=hi) (hk:(if (1 - s)^n≤lo then 1 else if hi<(1 - s)^n then 2 else 3)=k) (hPo:∀ w',Below w.heap.size w w'→Po (.returned (.tuple #[.int .u8 k,.int .i64 0])) w') :
   (codeAt 5 Tryz.f7).wp Tryz.prog (bodyPost Tryz.prog Tryz.f7 Po) { tmps:=#[y0,.slice (some ⟨rb,ro,none⟩) n1 c,y2,y3,.pointer (some ⟨pp,0,none⟩),y5,.pointer (some ⟨mp,0,none⟩),.pointer (some ⟨bm,0,none⟩),y8,y9,y10,.int .i64 ((n:Nat):Int),.func (.func 36) #[] #[.pointer (some ⟨mp,0,none⟩),.pointer (some ⟨pp,0,none⟩)],y13,y14,y15,y16,y17,y18,y19,y20,y21,y22,y23,y24,y25,y26,y27,y28,y29,y30,y31,y32,y33,y34,y35,y36,y37,y38,y39,y40,y41,y42,y43,y44,y45,y46,y47,y48,y49,y50,y51,y52,y53,y54,y55,y56,y57,y58,y59,y60,y61,y62,y63,y64,y65,y66,y67,y68],defers:=[] } w:=by
 obtain ⟨A5,c5,B5,d5,e0,e1,e2,hx⟩:=hl.at (i:=n) hz
 obtain ⟨A6,c6,B6,d6,f0,f1,f2,hy⟩:=hl.at (i:=0) hx0
 simp only [Nat.zero_mul,Nat.add_zero] at f0 f1 f2
 have hrb:=bL w _ f0
 have hnl:n<n1:=by omega
 have hn0:0<n1:=by omega
 obtain ⟨l0,el0⟩:=eY (z - m - r:Rat)
 obtain ⟨l1,el1⟩:=eY (z - m+r:Rat)
 obtain ⟨g0,eg0⟩:=eY (x - m - r:Rat)
 obtain ⟨g1,eg1⟩:=eY (x - m+r:Rat)
 rw [eg0,eg1] at h0
 rw [el0,el1,eg0,eg1] at el eh
 have a1:=Vx.AC' z m
 have a2:=Vx.AC' (z - m) r
 have a3:=Vx.A9' (z - m) r
 have a4:=Vx.AC' x m
 have a5:=Vx.AC' (x - m) r
 have a6:=Vx.A9' (x - m) r
 rw [el0] at a2
 rw [el1] at a3
 rw [eg0] at a5
 rw [eg1] at a6
 have t1:Aa' l0≤4000000:=by omega
 have t2:Aa' l1≤4000000:=by omega
 have t3:Aa' g0≤4000000:=by omega
 have t4:Aa' g1≤4000000:=by omega
 have sl:Aa' lo≤16777216∧Aa' hi≤16777216:=by
   have hL:=DE' (l0 / g0) [l0 / g1,l1 / g0,l1 / g1]
   have hG:=CK (l0 / g0) [l0 / g1,l1 / g0,l1 / g1]
   rw [el] at hL
   rw [eh] at hG
   have all:∀ q∈l0 / g0::[l0 / g1,l1 / g0,l1 / g1],Aa' q≤16777216:=by
     intro q hq
     simp only [List.mem_cons,List.not_mem_nil,or_false] at hq
     have b1:=Vx.AZ l0 g0
     have b2:=Vx.AZ l0 g1
     have b3:=Vx.AZ l1 g0
     have b4:=Vx.AZ l1 g1
     rcases hq with rfl | rfl | rfl | rfl <;> omega
   exact ⟨all _ hL.1,all _ hG.1⟩
 clear a1 a2 a3 a4 a5 a6 hz hx0
 replace el0:=hid el0
 replace el1:=hid el1
 replace eg0:=hid eg0
 replace eg1:=hid eg1
 replace el:=hid el
 replace eh:=hid eh
 replace h0:=hid h0
 replace t1:=hid t1
 replace t2:=hid t2
 replace t3:=hid t3
 replace t4:=hid t4
 replace sl:=hid sl
 replace hx:=hid hx
 replace hy:=hid hy
 replace hl:=hid hl
 replace hm:=hid hm
 replace hM:=hid hM
 replace sm:=hid sm
 replace hA:=hid hA
 replace hAn:=hid hAn
 replace hPp:=hid hPp
 replace hPn:=hid hPn
 replace sz:=hid sz
 replace sx:=hid sx
 replace sA:=hid sA
 replace sr:=hid sr
 replace hk:=hid hk
 replace hPo:=hid hPo
 replace hr0:=hid hr0
 replace hn1:=hid hn1

 show Code.wp _ (Code.seq _ _) _ _ _
 go_upto_region 8 with fail
 rename_i G hG
 replace hG:=hid hG
 go_wp2_with fail
 refine wp_region_held_drew (S:=(fun w'=>w'.cell? ⟨rb,ro+n*3,none⟩=w.cell? ⟨rb,ro+n*3,none⟩∧w'.cell? ⟨rb,ro+n*3+1,none⟩=w.cell? ⟨rb,ro+n*3+1,none⟩∧w'.cell? ⟨rb,ro+n*3+2,none⟩=w.cell? ⟨rb,ro+n*3+2,none⟩∧w'.cell? ⟨rb,ro,none⟩=w.cell? ⟨rb,ro,none⟩∧w'.cell? ⟨rb,ro+1,none⟩=w.cell? ⟨rb,ro+1,none⟩∧w'.cell? ⟨rb,ro+2,none⟩=w.cell? ⟨rb,ro+2,none⟩)) (by kernel_rfl) ?_ (fun hHeld=>?_)
 · (try dsimp only)
   exact ⟨rfl,rfl,rfl,rfl,rfl,rfl⟩
 obtain ⟨wd,hwd⟩:=eX w.drew
 have bd:Hid (Below w.heap.size w wd):=hid (by rw [hwd];exact ⟨rfl,rfl,rfl,nL _,fun _ _=>rfl⟩)
 rw [←hwd] at hHeld ⊢
 clear hwd
 have hSof:Hid (∀ z:World,Below wd.heap.size wd z→z.cell? ⟨rb,ro+n*3,none⟩=w.cell? ⟨rb,ro+n*3,none⟩∧z.cell? ⟨rb,ro+n*3+1,none⟩=w.cell? ⟨rb,ro+n*3+1,none⟩∧z.cell? ⟨rb,ro+n*3+2,none⟩=w.cell? ⟨rb,ro+n*3+2,none⟩∧z.cell? ⟨rb,ro,none⟩=w.cell? ⟨rb,ro,none⟩∧z.cell? ⟨rb,ro+1,none⟩=w.cell? ⟨rb,ro+1,none⟩∧z.cell? ⟨rb,ro+2,none⟩=w.cell? ⟨rb,ro+2,none⟩):=hid (fun z hz=>by
   have k:=bS bd.out hz
   exact ⟨k.cell (p:=⟨rb,ro+n*3,none⟩) hrb,k.cell (p:=⟨rb,ro+n*3+1,none⟩) hrb,k.cell (p:=⟨rb,ro+n*3+2,none⟩) hrb,k.cell (p:=⟨rb,ro,none⟩) hrb,k.cell (p:=⟨rb,ro+1,none⟩) hrb,k.cell (p:=⟨rb,ro+2,none⟩) hrb⟩)
 refine tk (i:=0) (h:=?_)
 try simp only [Act.put,lt,ly,lu]
 refine tk (i:=1) (h:=?_)
 try simp only [Act.put,lt,ly,lu]
 refine tk (i:=2) (h:=?_)
 try simp only [Act.put,lt,ly,lu]
 refine tk (i:=3) (h:=?_)
 try simp only [Act.put,lt,ly,lu]
 refine tk (i:=4) (h:=?_)
 try simp only [Act.put,lt,ly,lu]
 refine tk (i:=6) (h:=?_)
 try simp only [Act.put,lt,ly,lu]
 refine tk (i:=7) (h:=?_)
 try simp only [Act.put,lt,ly,lu]
 refine tk (i:=8) (h:=?_)
 try simp only [Act.put,lt,ly,lu]
 refine tk (i:=9) (h:=?_)
 try simp only [Act.put,lt,ly,lu]
 clear hHeld
 refine AK (base:=2) [jc 5 42 [] (fun V U=>Ao' U V l0 l1) [],jc 10 47 [] (fun V U=>Ao' U V g0 g1) [],jt 11 48 [5,10] (.int .i64 0) (fun V U=>Ao' U V lo hi) [⟨12,36,fun lv lb=>.tuple #[lv 11,.int .i64 0]⟩,⟨13,49,fun lv lb=>lv 11⟩,⟨14,50,fun lv lb=>.int .i64 0⟩],ja 15 13 (.cells #[.bool false,.slice none 0 0,.slice none 0 0,.bool false,.slice none 0 0,.slice none 0 0] 37)] (by kernel_rfl) hSof.out ⟨fun _ _=>⟨rfl,rfl⟩,fun _ _=>⟨rfl,rfl⟩,fun _ _=>⟨rfl,rfl⟩,fun _ _=>⟨rfl,rfl⟩,trivial⟩ ⟨fun _ _ _ _ h hb=>h.keep hb,fun _ _ _ _ h hb=>h.keep hb,fun _ _ _ _ h hb=>h.keep hb,B4' _ _ _,trivial⟩ ⟨trivial,trivial,⟨?_,?_,?_,trivial⟩,trivial,trivial⟩ ⟨?_,?_,?_,?_,trivial⟩ ?_
 · refine AD' (h:=fun lv lb=>⟨by rfl,fun w0=>?_⟩)
   simp only [W,Ae,Af',zfa,zfb,zfc,zfd,zfe,Job.ws,jc,jt,jf,ja,jl,zff,zfg,Ag',Act.put,lt,ly,lu]
   go_simp
 · refine AD' (h:=fun lv lb=>⟨by rfl,fun w0=>?_⟩)
   simp only [W,Ae,Af',zfa,zfb,zfc,zfd,zfe,Job.ws,jc,jt,jf,ja,jl,zff,zfg,Ag',Act.put,lt,ly,lu]
   go_simp
 · refine AD' (h:=fun lv lb=>⟨by rfl,fun w0=>?_⟩)
   simp only [W,Ae,Af',zfa,zfb,zfc,zfd,zfe,Job.ws,jc,jt,jf,ja,jl,zff,zfg,Ag',Act.put,lt,ly,lu]
   go_simp
 · refine Aj' (h:=fun lv lb U HB hd K hK=>?_)
   simp only [W,Ae,Af',zfa,zfb,zfc,zfd,zfe,Job.ws,jc,jt,jf,ja,jl,zff,zfg,Ag',Act.put,lt,ly,lu]
   go_simp
   go_at_call 36
   refine (CH' (hx.out.keep (bS bd.out HB)) (Ab' hA.out (bS bd.out HB)) (hAn.out.keep (bS bd.out HB)) (Ab' hPp.out (bS bd.out HB)) (hPn.out.keep (bS bd.out HB)) sz.out sA.out sr.out hr0.out el0.out el1.out).mono ?_
   rintro eK u9 ⟨V,rfl,kk,b9⟩
   exact hK.out V 0 u9 _ b9 nofun kk (by kernel_rfl)
 · refine Aj' (h:=fun lv lb U HB hd K hK=>?_)
   simp only [W,Ae,Af',zfa,zfb,zfc,zfd,zfe,Job.ws,jc,jt,jf,ja,jl,zff,zfg,Ag',Act.put,lt,ly,lu]
   go_simp
   go_at_call 36
   refine (CH' (hy.out.keep (bS bd.out HB)) (Ab' hA.out (bS bd.out HB)) (hAn.out.keep (bS bd.out HB)) (Ab' hPp.out (bS bd.out HB)) (hPn.out.keep (bS bd.out HB)) sx.out sA.out sr.out hr0.out eg0.out eg1.out).mono ?_
   rintro eK u9 ⟨V,rfl,kk,b9⟩
   exact hK.out V 0 u9 _ b9 nofun kk (by kernel_rfl)
 · refine Aj' (h:=fun lv lb U HB hd K hK=>?_)
   have k5:Ao' U (lv 5) l0 l1:=hd.1 rfl
   have k10:Ao' U (lv 10) g0 g1:=hd.2.1 rfl
   simp only [W,Ae,Af',zfa,zfb,zfc,zfd,zfe,Job.ws,jc,jt,jf,ja,jl,zff,zfg,Ag',Act.put,lt,ly,lu]
   go_simp
   go_at_call 38
   refine (Hc' el.out eh.out h0.out k5 k10 (nT t1.out (by omega)) (nT t2.out (by omega)) (nT t3.out (by omega)) (nT t4.out (by omega))).mono ?_
   rintro eK u9 ⟨V,rfl,kk,b9⟩
   exact hK.out V 0 u9 _ b9 nofun kk (by kernel_rfl)
 · refine Cl' (h:=fun lv lb U=>⟨by rfl,?_⟩)
   simp only [W,Ae,Af',zfa,zfb,zfc,zfd,zfe,Job.ws,jc,jt,jf,ja,jl,zff,zfg,Ag',Act.put,lt,ly,lu]
   go_simp
 intro lv lb u HB hF hD
 have k5:=hF.1.1
 have k10:=hF.2.1.1
 have k11:=hF.2.2.1.1
 have k15:=hF.2.2.2.1.1
 have l15:=hF.2.2.2.1.2 rfl
 clear hF hD
 simp only [W,Ae,Af',zfa,zfb,zfc,zfd,zfe,Job.ws,jc,jt,jf,ja,jl,zff,zfg,Ag',Act.put,lt,ly,lu]
 replace k5:Ao' u (lv 5) l0 l1:=k5
 replace k10:Ao' u (lv 10) g0 g1:=k10
 replace k11:Ao' u (lv 11) lo hi:=k11
 replace k15:u.heap[lb 15]?=some (.cells #[.bool false,.slice none 0 0,.slice none 0 0,.bool false,.slice none 0 0,.slice none 0 0] 37):=k15
 replace l15:wd.heap.size≤lb 15:=l15
 generalize lb 15=b15 at *
 generalize lv 5=v5 at *
 generalize lv 10=v10 at *
 generalize lv 11=v11 at *
 clear lv lb
 obtain ⟨Aq,cq,Bq,dq,Eq,eq,Gq,gq,rfl,-,-,-,-⟩:=id k11.opened
 refine BA' (fun i=>i==16) (by kernel_rfl) (fun i hp=>?_)
 obtain rfl:=beq_iff_eq.1 hp
 clear hp
 refine AllReadyH.cons (o:=?o16) ?e16 ?k16 AllReadyH.nil
 case e16=>simp only [lg,lz,ls] <;> rfl
 intro K hK
 have D16:=k15
 obtain ⟨q0,q1,q2,q3,q4,q5⟩:=Aj D16
 have F0:=fR u b15 0 _ _ D16
 have F1:=fR u b15 1 _ _ D16
 have F2:=fR u b15 2 _ _ D16
 have F3:=fR u b15 3 _ _ D16
 have F4:=fR u b15 4 _ _ D16
 have F5:=fR u b15 5 _ _ D16
 go_simp
 clear q0 F0 q1 F1 q2 F2 q3 F3 q4 F4 q5 F5
 obtain ⟨u2,hw⟩:=eX (((((((u.setCell ⟨b15,0,none⟩ (.bool (decide (lo.num<0)))).setCell ⟨b15,1,none⟩ (.slice Aq (Vx.len lo.num.natAbs) cq)).setCell ⟨b15,2,none⟩ (.slice Bq (Vx.len (below lo.den)) dq)).setCell ⟨b15,3,none⟩ (.bool (decide (hi.num<0)))).setCell ⟨b15,4,none⟩ (.slice Eq (Vx.len hi.num.natAbs) eq)).setCell ⟨b15,5,none⟩ (.slice Gq (Vx.len (below hi.den)) gq)))
 obtain ⟨E16,OT,LV,BL⟩:=AF D16 hw
 rw [←hw]
 clear hw
 have HB16:=BL _ _ l15 HB
 have k11_16:=LV.box k11
 refine hK.out _ _ (hSof.out _ HB16) (fun _=>?_)
 clear hK K OT LV BL D16
 try simp only [Act.put,lt,ly,lu]
 have hHeld:=hSof.out _ HB16
 refine tk (i:=17) (h:=?_)
 try simp only [Act.put,lt,ly,lu]
 refine wpAnyH_done (by kernel_rfl) ?_ _
 have FB:=hid (bS bd.out HB16)
 clear hHeld hSof
 go_wp2_with fail
 refine hG.out _ _ ?_
 exact FG E16 k11_16 sl.out.1 sl.out.2 (Ab' hm.out FB.out) (hM.out.keep FB.out) sm.out hn2 hk.out (fun w' h=>hPo.out w' (Ae' FB.out h))
theorem DZ {w:World} {v vm vs:Value} {a b r m s x z lo hi:Rat} {rb ro c n n1:Nat} {k:Int} {l:List Rat} (hp:AA' w v a b r) (hm:Ac' w vm m) (hs:Ac' w vs s) (hl:AG w rb ro l) (hz:l[n]?=some z) (hx0:l[0]?=some x) (hn1:n1=n+1) (hn:1≤n) (hn2:n≤199) (hg:Ar' a b r) (hs0:0≤s) (hs1:s<1) (sz:Aa' z≤1000000) (sx:Aa' x≤1000000) (sm:Aa' m≤1000000) (ss:Aa' s≤900000) (sr:Aa' r≤1000000) (sg:Aa' a≤1000000∧Aa' b≤1000000) (h0:¬ (x - m - r≤0∧0≤x - m+r)) (el:leastOf ((z - m - r) / (x - m - r)) [(z - m - r) / (x - m+r),(z - m+r) / (x - m - r),(z - m+r) / (x - m+r)]=lo) (eh:greatestOf ((z - m - r) / (x - m - r)) [(z - m - r) / (x - m+r),(z - m+r) / (x - m - r),(z - m+r) / (x - m+r)]=hi) (hk:(if (1 - s)^n≤lo then 1 else if hi<(1 - s)^n then 2 else 3)=k) :
   Calls Tryz.prog 7 #[v,.slice (some ⟨rb,ro,none⟩) n1 c,vm,vs] w (fun e w'=>e=.returned (.tuple #[.int .u8 k,.int .i64 0])∧Below w.heap.size w w'):=by
 obtain ⟨o,eo⟩:=eY (((1:Int):Rat):Rat)
 obtain ⟨c9,e9⟩:=eY (s.num.sign:Int)
 obtain ⟨c8,e8⟩:=eY (cmpQ s o:Int)
 have d1:decide (c9<0)=false:=dF_ (by rw [←e9];exact Int.not_lt.2 (Int.sign_nonneg_iff.2 (Rat.num_nonneg.2 hs0)))
 have d2:decide (c8≥0)=false:=dF_ (by rw [←e8];have:cmpQ s o<0:=cmpQ_lt0.2 (by rw [←eo];exact hs1);omega)
 have ko:Aa' o≤536870912:=by rw [←eo];decide
 have ks:Aa' s≤536870912:=by omega
 have hwk:IntKind.i64.wrap (((n1:Nat):Int) - 1)=((n:Nat):Int):=by
   subst hn1
   unfold IntKind.wrap
   simp [IntKind.bits,IntKind.signed]
   omega
 have hn1le:n1≤200:=by omega
 have hn1ge:2≤n1:=by omega
 replace eo:=hid eo
 replace e9:=hid e9
 replace e8:=hid e8
 replace ko:=hid ko
 replace ks:=hid ks
 replace hl:=hid hl
 replace hz:=hid hz
 replace hx0:=hid hx0
 replace hg:=hid hg
 replace sz:=hid sz
 replace sx:=hid sx
 replace sm:=hid sm
 replace ss:=hid ss
 replace sr:=hid sr
 replace sg:=hid sg
 replace h0:=hid h0
 replace el:=hid el
 replace eh:=hid eh
 replace hk:=hid hk
 replace hs0:=hid hs0
 replace hs1:=hid hs1
 replace hn1:=hid hn1
 obtain ⟨C1,j1,C2,j2,C3,j3,C4,j4,C5,j5,C6,j6,rfl,hpg,hpe⟩:=id hp.opened
 replace hp:=hid hp
 replace hpg:=hid hpg
 replace hpe:=hid hpe
 obtain ⟨C7,j7,C8,j8,rfl,-,-⟩:=id hm.opened
 replace hm:=hid hm
 obtain ⟨C9,j9,C10,j10,rfl,-,-⟩:=id hs.opened
 replace hs:=hid hs
 obtain ⟨w1,hw1⟩:=eX ((((w.alloc (.cells #[.bool (decide (a.num<0)),.slice C1 (Vx.len a.num.natAbs) j1,.slice C2 (Vx.len (below a.den)) j2,.bool (decide (b.num<0)),.slice C3 (Vx.len b.num.natAbs) j3,.slice C4 (Vx.len (below b.den)) j4,.bool (decide (r.num<0)),.slice C5 (Vx.len r.num.natAbs) j5,.slice C6 (Vx.len (below r.den)) j6] 39)).alloc (.cells #[.bool (decide (m.num<0)),.slice C7 (Vx.len m.num.natAbs) j7,.slice C8 (Vx.len (below m.den)) j8] 35)).alloc (.cells #[.bool (decide (s.num<0)),.slice C9 (Vx.len s.num.natAbs) j9,.slice C10 (Vx.len (below s.den)) j10] 35)))
 obtain ⟨b1,g1,g2,g3⟩:=AC hw1
 replace g1:=hid g1
 replace g2:=hid g2
 replace g3:=hid g3
 replace b1:=hid b1
 go_enter Tryz.func7,Tryz.ntmps7
 go_upto_region 1 with fail
 rw [←hw1]
 clear hw1
 have hg:w1.heap[w.heap.size]?=some (.cells #[.bool (decide (a.num<0)),.slice C1 (Vx.len a.num.natAbs) j1,.slice C2 (Vx.len (below a.den)) j2,.bool (decide (b.num<0)),.slice C3 (Vx.len b.num.natAbs) j3,.slice C4 (Vx.len (below b.den)) j4,.bool (decide (r.num<0)),.slice C5 (Vx.len r.num.natAbs) j5,.slice C6 (Vx.len (below r.den)) j6] 39 (0,0)):=((Below.refl _ w1).block _ (gE.1 g1.out).1).trans g1.out
 have z_p_0:w1.cell? ⟨w.heap.size,0,none⟩=some (.bool (decide (a.num<0))):=cR _ _ _ _ _ _ hg
 have z_p_1:w1.cell? ⟨w.heap.size,1,none⟩=some (.slice C1 (Vx.len a.num.natAbs) j1):=cR _ _ _ _ _ _ hg
 have z_p_2:w1.cell? ⟨w.heap.size,2,none⟩=some (.slice C2 (Vx.len (below a.den)) j2):=cR _ _ _ _ _ _ hg
 have z_p_3:w1.cell? ⟨w.heap.size,3,none⟩=some (.bool (decide (b.num<0))):=cR _ _ _ _ _ _ hg
 have z_p_4:w1.cell? ⟨w.heap.size,4,none⟩=some (.slice C3 (Vx.len b.num.natAbs) j3):=cR _ _ _ _ _ _ hg
 have z_p_5:w1.cell? ⟨w.heap.size,5,none⟩=some (.slice C4 (Vx.len (below b.den)) j4):=cR _ _ _ _ _ _ hg
 have z_p_6:w1.cell? ⟨w.heap.size,6,none⟩=some (.bool (decide (r.num<0))):=cR _ _ _ _ _ _ hg
 have z_p_7:w1.cell? ⟨w.heap.size,7,none⟩=some (.slice C5 (Vx.len r.num.natAbs) j5):=cR _ _ _ _ _ _ hg
 have z_p_8:w1.cell? ⟨w.heap.size,8,none⟩=some (.slice C6 (Vx.len (below r.den)) j6):=cR _ _ _ _ _ _ hg
 clear hg
 have HX:=hid (Bz (n:=n1) (k:=2) (hp.out.keep b1.out) hg.out (nT sg.out.1 (by omega)) (nT sg.out.2 (by omega)) hn1le hn1ge)
 go_wp2_with fail
 refine (HX.out).mono ?_
 rintro e w2 ⟨rfl,b2⟩
 replace b2:=hid b2
 clear HX
 obtain ⟨z_s_0,z_s_1,z_s_2⟩:=Ad' (Ab' g3.out b2.out)
 go_upto_region 4 with fail
 have hbs:=Al' (Ab' g3.out b2.out)
 go_wp2_with fail
 refine wp_region_held_drew (S:=(fun w'=>(w'.cell? ⟨(w.heap.size+2),0,none⟩=w2.cell? ⟨(w.heap.size+2),0,none⟩∧w'.cell? ⟨(w.heap.size+2),1,none⟩=w2.cell? ⟨(w.heap.size+2),1,none⟩∧w'.cell? ⟨(w.heap.size+2),2,none⟩=w2.cell? ⟨(w.heap.size+2),2,none⟩))) (by kernel_rfl) ?_ (fun hHeld=>?_)
 · (try dsimp only)
   exact ⟨rfl,rfl,rfl⟩
 obtain ⟨w3,hw3⟩:=eX w2.drew
 have b3:Hid (Below w2.heap.size w2 w3):=hid (by rw [hw3];exact ⟨rfl,rfl,rfl,nL _,fun _ _=>rfl⟩)
 rw [←hw3] at hHeld ⊢
 clear hw3
 have y0_3:=hid (bS (bS b1.out b2.out) b3.out)
 have lbW:w.heap.size≤w3.heap.size:=y0_3.out.size
 have lbS:w2.heap.size≤w3.heap.size:=b3.out.size
 refine tk (i:=0) (h:=?_)
 try simp only [Act.put,lt,ly,lu]
 refine rdz (i:=1) (h:=fun K hK=>?_)
 go_simp;go_at_call 35
 refine (Bc e9.out (hs.out.keep y0_3.out)).mono ?_
 rintro e w4 ⟨rfl,b4⟩
 replace b4:=hid b4
 have y2_4:=hid (bS b3.out b4.out)
 have hS:=y2_4.out
 clear hHeld
 refine hK.out _ _ ?_ (fun hHeld=>?_)
 · (try dsimp only)
   exact ⟨hS.cell (p:=⟨(w.heap.size+2),0,none⟩) hbs,hS.cell (p:=⟨(w.heap.size+2),1,none⟩) hbs,hS.cell (p:=⟨(w.heap.size+2),2,none⟩) hbs⟩
 clear hK K hS;try simp only [Act.put,lt,ly,lu]
 refine tk (i:=2) (h:=?_)
 try simp only [Act.put,lt,ly,lu]
 refine tk (i:=3) (h:=?_)
 try simp only [Act.put,lt,ly,lu]
 refine tk (i:=4) (h:=?_)
 try simp only [Act.put,lt,ly,lu]
 refine rdz (i:=5) (h:=fun K hK=>?_)
 go_simp;go_at_call 18
 refine (AE' (w:=w4) eo.out (by omega) (by omega)).mono ?_
 rintro e w5 ⟨v5,rfl,hv5,b5⟩
 obtain ⟨C11,j11,C12,j12,rfl,-,-⟩:=id hv5.opened
 replace hv5:=hid hv5
 replace b5:=hid b5
 have y2_5:=hid (bS y2_4.out b5.out)
 have hS:=y2_5.out
 clear hHeld
 refine hK.out _ _ ?_ (fun hHeld=>?_)
 · (try dsimp only)
   exact ⟨hS.cell (p:=⟨(w.heap.size+2),0,none⟩) hbs,hS.cell (p:=⟨(w.heap.size+2),1,none⟩) hbs,hS.cell (p:=⟨(w.heap.size+2),2,none⟩) hbs⟩
 clear hK K hS;try simp only [Act.put,lt,ly,lu]
 refine rdz (i:=6) (h:=fun K hK=>?_)
 have y0_5:=hid (bS (bS y0_3.out b4.out) b5.out)
 go_simp;go_at_call 17
 refine (Bf' e8.out (hs.out.keep y0_5.out) hv5.out ks.out ko.out).mono ?_
 rintro e w6 ⟨rfl,b6⟩
 replace b6:=hid b6
 have y2_6:=hid (bS y2_5.out b6.out)
 have hS:=y2_6.out
 clear hHeld
 refine hK.out _ _ ?_ (fun hHeld=>?_)
 · (try dsimp only)
   exact ⟨hS.cell (p:=⟨(w.heap.size+2),0,none⟩) hbs,hS.cell (p:=⟨(w.heap.size+2),1,none⟩) hbs,hS.cell (p:=⟨(w.heap.size+2),2,none⟩) hbs⟩
 clear hK K hS;try simp only [Act.put,lt,ly,lu]
 refine tk (i:=7) (h:=?_)
 try simp only [Act.put,lt,ly,lu]
 refine tk (i:=8) (h:=?_)
 try simp only [Act.put,lt,ly,lu]
 refine wpAnyH_done (by kernel_rfl) ?_ _
 clear hHeld
 have y0_6:=hid (bS y0_5.out b6.out)
 have y1_6:=hid (bS (bS (bS (bS b2.out b3.out) b4.out) b5.out) b6.out)
 have FB:=hid y0_6.out
 go_upto_region 7 with fail
 rename_i G hG
 replace hG:=hid hG
 go_wp2_with fail
 refine hG.out _ _ ?_
 exact El' (hl.out.keep y0_6.out) hz.out hx0.out hn1.out (by omega) (Ab' g3.out y1_6.out) (hs.out.keep y0_6.out) (nT ss.out (by omega)) (Ab' g2.out y1_6.out) (hm.out.keep y0_6.out) (Ab' g1.out y1_6.out) (hpe.out.keep y0_6.out) sz.out sx.out sm.out sr.out (hg.out).2.2 h0.out el.out eh.out hk.out (fun w' h=>⟨rfl,Ae' FB.out h⟩)
end Go.Proofs.YtflopjfnppolgaaGreatDoor.Rf
