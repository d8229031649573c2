/-
  Contracts of the functions that the law calls, for every input (TB Va Vd Ea).
-/
import Derived.Test.YtflopjfnppolgaaGreatDoorZ00
import Derived.Test.YtflopjfnppolgaaGreatDoorZ34
import Derived.Test.YtflopjfnppolgaaGreatDoorZ40
import Derived.Test.YtflopjfnppolgaaGreatDoorZ35
import Derived.Test.YtflopjfnppolgaaGreatDoorZ37
import Derived.Test.YtflopjfnppolgaaGreatDoorZ19
import Derived.Test.YtflopjfnppolgaaGreatDoorZ18
import Derived.Test.YtflopjfnppolgaaGreatDoorZ11
import Derived.Test.YtflopjfnppolgaaGreatDoorZ08
import Derived.Test.YtflopjfnppolgaaGreatDoorZ09
import Derived.Test.YtflopjfnppolgaaGreatDoorZ10
import Derived.Test.YtflopjfnppolgaaGreatDoorZ31
import Derived.Test.YtflopjfnppolgaaGreatDoorZ30
import Derived.Deep.LoopGhost
set_option linter.all false
set_option maxRecDepth 100000
set_option maxHeartbeats 40000000
namespace Go.Proofs.YtflopjfnppolgaaGreatDoor.Rf
open Lib (hid)
open Go.RowKit
open Rx
open Vx (Aa' Ai Ai')
open List renaming flatMap_cons → zfa, flatMap_nil → zfb, append_nil → zfc, nil_append → zfd, cons_append → zfe, foldl_cons → zff, foldl_nil → zfg, getElem?_toArray → lg, getElem?_cons_zero → lz, getElem?_cons_succ → ls, setIfInBounds_toArray → lt, set_cons_zero → ly, set_cons_succ → lu
theorem Ci {w:World} {v vm vs:Value} {a b r m s:Rat} {A:Option Addr} {c n1:Nat} {k:Int} (hp:AA' w v a b r) (hm:Ac' w vm m) (hs:Ac' w vs s) (hc:CC a b r n1 2=k) (hk0:k≠0) (sa:Aa' a≤16777216) (sb:Aa' b≤16777216) :
   Calls Tryz.prog 7 #[v,.slice A n1 c,vm,vs] w (fun e w'=>e=.returned (.tuple #[.int .u8 0,.int .i64 k])∧Below w.heap.size w w'):=by
 have d1:(k==0)=false:=by rw [beq_eq_false_iff_ne];exact hk0
 have d2:(k != 0)=true:=by rw [bne_iff_ne];exact hk0
 replace hc:=hid hc
 replace sa:=hid sa
 replace sb:=hid sb
 clear hk0
 obtain ⟨C1,j1,C2,j2,C3,j3,C4,j4,C5,j5,C6,j6,rfl,hpg,hpe⟩:=id hp.opened
 replace hp:=hid hp
 replace hpg:=hid hpg
 replace hpe:=hid hpe
 obtain ⟨C7,j7,C8,j8,rfl,-,-⟩:=id hm.opened
 replace hm:=hid hm
 obtain ⟨C9,j9,C10,j10,rfl,-,-⟩:=id hs.opened
 replace hs:=hid hs
 obtain ⟨w1,hw1⟩:=eX ((((w.alloc (.cells #[.bool (decide (a.num<0)),.slice C1 (Vx.len a.num.natAbs) j1,.slice C2 (Vx.len (below a.den)) j2,.bool (decide (b.num<0)),.slice C3 (Vx.len b.num.natAbs) j3,.slice C4 (Vx.len (below b.den)) j4,.bool (decide (r.num<0)),.slice C5 (Vx.len r.num.natAbs) j5,.slice C6 (Vx.len (below r.den)) j6] 39)).alloc (.cells #[.bool (decide (m.num<0)),.slice C7 (Vx.len m.num.natAbs) j7,.slice C8 (Vx.len (below m.den)) j8] 35)).alloc (.cells #[.bool (decide (s.num<0)),.slice C9 (Vx.len s.num.natAbs) j9,.slice C10 (Vx.len (below s.den)) j10] 35)))
 obtain ⟨b1,g1,g2,g3⟩:=AC hw1
 replace g1:=hid g1
 replace g2:=hid g2
 replace g3:=hid g3
 replace b1:=hid b1
 go_enter Tryz.func7,Tryz.ntmps7
 go_upto_region 1 with fail
 rw [←hw1]
 clear hw1
 have hg:w1.heap[w.heap.size]?=some (.cells #[.bool (decide (a.num<0)),.slice C1 (Vx.len a.num.natAbs) j1,.slice C2 (Vx.len (below a.den)) j2,.bool (decide (b.num<0)),.slice C3 (Vx.len b.num.natAbs) j3,.slice C4 (Vx.len (below b.den)) j4,.bool (decide (r.num<0)),.slice C5 (Vx.len r.num.natAbs) j5,.slice C6 (Vx.len (below r.den)) j6] 39 (0,0)):=((Below.refl _ w1).block _ (gE.1 g1.out).1).trans g1.out
 have z_p_0:w1.cell? ⟨w.heap.size,0,none⟩=some (.bool (decide (a.num<0))):=cR _ _ _ _ _ _ hg
 have z_p_1:w1.cell? ⟨w.heap.size,1,none⟩=some (.slice C1 (Vx.len a.num.natAbs) j1):=cR _ _ _ _ _ _ hg
 have z_p_2:w1.cell? ⟨w.heap.size,2,none⟩=some (.slice C2 (Vx.len (below a.den)) j2):=cR _ _ _ _ _ _ hg
 have z_p_3:w1.cell? ⟨w.heap.size,3,none⟩=some (.bool (decide (b.num<0))):=cR _ _ _ _ _ _ hg
 have z_p_4:w1.cell? ⟨w.heap.size,4,none⟩=some (.slice C3 (Vx.len b.num.natAbs) j3):=cR _ _ _ _ _ _ hg
 have z_p_5:w1.cell? ⟨w.heap.size,5,none⟩=some (.slice C4 (Vx.len (below b.den)) j4):=cR _ _ _ _ _ _ hg
 have z_p_6:w1.cell? ⟨w.heap.size,6,none⟩=some (.bool (decide (r.num<0))):=cR _ _ _ _ _ _ hg
 have z_p_7:w1.cell? ⟨w.heap.size,7,none⟩=some (.slice C5 (Vx.len r.num.natAbs) j5):=cR _ _ _ _ _ _ hg
 have z_p_8:w1.cell? ⟨w.heap.size,8,none⟩=some (.slice C6 (Vx.len (below r.den)) j6):=cR _ _ _ _ _ _ hg
 clear hg
 have HX:=hid (G7 (n:=n1) (k:=2) (hp.out.keep b1.out) sa.out sb.out hc.out)
 go_wp2_with fail
 refine (HX.out).mono ?_
 rintro e w2 ⟨rfl,b2⟩
 replace b2:=hid b2
 clear HX
 have y0_2:=hid (bS b1.out b2.out)
 have FB:=hid y0_2.out
 go_wp2_with fail
 go_ret2
 exact ⟨rfl,FB.out⟩
theorem He {w:World} {v vm vs:Value} {a b r m s:Rat} {A:Option Addr} {c n1:Nat} (hp:AA' w v a b r) (hm:Ac' w vm m) (hs:Ac' w vs s) (hn1:2≤n1) (hn2:n1≤200) (hg:Ar' a b r) (hs0:s<0) (sa:Aa' a≤16777216) (sb:Aa' b≤16777216) (ss:Aa' s≤900000) :
   Calls Tryz.prog 7 #[v,.slice A n1 c,vm,vs] w (fun e w'=>e=.returned (.tuple #[.int .u8 0,.int .i64 3])∧Below w.heap.size w w'):=by
 obtain ⟨o,eo⟩:=eY (((1:Int):Rat):Rat)
 obtain ⟨c9,e9⟩:=eY (s.num.sign:Int)
 obtain ⟨c8,e8⟩:=eY (cmpQ s o:Int)
 have ko:Aa' o≤536870912:=by rw [←eo];decide
 have ks:Aa' s≤536870912:=by omega
 have d1:decide (c9<0)=true:=dT_ (by rw [←e9];exact Int.not_le.1 (fun h=>absurd hs0 (Rat.not_lt.2 (Rat.num_nonneg.1 (Int.sign_nonneg_iff.1 h)))))
 replace eo:=hid eo
 replace e9:=hid e9
 replace e8:=hid e8
 replace ko:=hid ko
 replace ks:=hid ks
 replace hg:=hid hg
 replace sa:=hid sa
 replace sb:=hid sb
 replace ss:=hid ss
 obtain ⟨C1,j1,C2,j2,C3,j3,C4,j4,C5,j5,C6,j6,rfl,hpg,hpe⟩:=id hp.opened
 replace hp:=hid hp
 replace hpg:=hid hpg
 replace hpe:=hid hpe
 obtain ⟨C7,j7,C8,j8,rfl,-,-⟩:=id hm.opened
 replace hm:=hid hm
 obtain ⟨C9,j9,C10,j10,rfl,-,-⟩:=id hs.opened
 replace hs:=hid hs
 obtain ⟨w1,hw1⟩:=eX ((((w.alloc (.cells #[.bool (decide (a.num<0)),.slice C1 (Vx.len a.num.natAbs) j1,.slice C2 (Vx.len (below a.den)) j2,.bool (decide (b.num<0)),.slice C3 (Vx.len b.num.natAbs) j3,.slice C4 (Vx.len (below b.den)) j4,.bool (decide (r.num<0)),.slice C5 (Vx.len r.num.natAbs) j5,.slice C6 (Vx.len (below r.den)) j6] 39)).alloc (.cells #[.bool (decide (m.num<0)),.slice C7 (Vx.len m.num.natAbs) j7,.slice C8 (Vx.len (below m.den)) j8] 35)).alloc (.cells #[.bool (decide (s.num<0)),.slice C9 (Vx.len s.num.natAbs) j9,.slice C10 (Vx.len (below s.den)) j10] 35)))
 obtain ⟨b1,g1,g2,g3⟩:=AC hw1
 replace g1:=hid g1
 replace g2:=hid g2
 replace g3:=hid g3
 replace b1:=hid b1
 go_enter Tryz.func7,Tryz.ntmps7
 go_upto_region 1 with fail
 rw [←hw1]
 clear hw1
 have hg:w1.heap[w.heap.size]?=some (.cells #[.bool (decide (a.num<0)),.slice C1 (Vx.len a.num.natAbs) j1,.slice C2 (Vx.len (below a.den)) j2,.bool (decide (b.num<0)),.slice C3 (Vx.len b.num.natAbs) j3,.slice C4 (Vx.len (below b.den)) j4,.bool (decide (r.num<0)),.slice C5 (Vx.len r.num.natAbs) j5,.slice C6 (Vx.len (below r.den)) j6] 39 (0,0)):=((Below.refl _ w1).block _ (gE.1 g1.out).1).trans g1.out
 have z_p_0:w1.cell? ⟨w.heap.size,0,none⟩=some (.bool (decide (a.num<0))):=cR _ _ _ _ _ _ hg
 have z_p_1:w1.cell? ⟨w.heap.size,1,none⟩=some (.slice C1 (Vx.len a.num.natAbs) j1):=cR _ _ _ _ _ _ hg
 have z_p_2:w1.cell? ⟨w.heap.size,2,none⟩=some (.slice C2 (Vx.len (below a.den)) j2):=cR _ _ _ _ _ _ hg
 have z_p_3:w1.cell? ⟨w.heap.size,3,none⟩=some (.bool (decide (b.num<0))):=cR _ _ _ _ _ _ hg
 have z_p_4:w1.cell? ⟨w.heap.size,4,none⟩=some (.slice C3 (Vx.len b.num.natAbs) j3):=cR _ _ _ _ _ _ hg
 have z_p_5:w1.cell? ⟨w.heap.size,5,none⟩=some (.slice C4 (Vx.len (below b.den)) j4):=cR _ _ _ _ _ _ hg
 have z_p_6:w1.cell? ⟨w.heap.size,6,none⟩=some (.bool (decide (r.num<0))):=cR _ _ _ _ _ _ hg
 have z_p_7:w1.cell? ⟨w.heap.size,7,none⟩=some (.slice C5 (Vx.len r.num.natAbs) j5):=cR _ _ _ _ _ _ hg
 have z_p_8:w1.cell? ⟨w.heap.size,8,none⟩=some (.slice C6 (Vx.len (below r.den)) j6):=cR _ _ _ _ _ _ hg
 clear hg
 have HX:=hid (Bz (n:=n1) (k:=2) (hp.out.keep b1.out) hg.out sa.out sb.out hn2 hn1)
 go_wp2_with fail
 refine (HX.out).mono ?_
 rintro e w2 ⟨rfl,b2⟩
 replace b2:=hid b2
 clear HX
 obtain ⟨z_s_0,z_s_1,z_s_2⟩:=Ad' (Ab' g3.out b2.out)
 go_upto_region 4 with fail
 have hbs:=Al' (Ab' g3.out b2.out)
 have y0_2:=hid (bS b1.out b2.out)
 go_wp2_with fail
 refine wp_region_held_drew (S:=(fun w'=>w'.cell? ⟨(w.heap.size+2),0,none⟩=w2.cell? ⟨(w.heap.size+2),0,none⟩∧w'.cell? ⟨(w.heap.size+2),1,none⟩=w2.cell? ⟨(w.heap.size+2),1,none⟩∧w'.cell? ⟨(w.heap.size+2),2,none⟩=w2.cell? ⟨(w.heap.size+2),2,none⟩)) (by kernel_rfl) ?_ (fun hHeld=>?_)
 · (try dsimp only)
   exact ⟨rfl,rfl,rfl⟩
 obtain ⟨wd,hwd⟩:=eX w2.drew
 have bd:Hid (Below w2.heap.size w2 wd):=hid (by rw [hwd];exact ⟨rfl,rfl,rfl,nL _,fun _ _=>rfl⟩)
 rw [←hwd] at hHeld ⊢
 clear hwd
 have hSof:Hid (∀ z:World,Below wd.heap.size wd z→z.cell? ⟨(w.heap.size+2),0,none⟩=w2.cell? ⟨(w.heap.size+2),0,none⟩∧z.cell? ⟨(w.heap.size+2),1,none⟩=w2.cell? ⟨(w.heap.size+2),1,none⟩∧z.cell? ⟨(w.heap.size+2),2,none⟩=w2.cell? ⟨(w.heap.size+2),2,none⟩):=hid (fun z hz=>by
   have k:=bS bd.out hz
   exact ⟨k.cell (p:=⟨(w.heap.size+2),0,none⟩) hbs,k.cell (p:=⟨(w.heap.size+2),1,none⟩) hbs,k.cell (p:=⟨(w.heap.size+2),2,none⟩) hbs⟩)
 refine tk (i:=0) (h:=?_)
 try simp only [Act.put,lt,ly,lu]
 clear hHeld
 refine AK (base:=0) [jf 1 24 [] (.int .i64 c9) [⟨2,25,fun lv lb=>.bool true⟩,⟨3,26,fun lv lb=>.bool true⟩],jf 4 27 [] (undef) [],jf 5 28 [] (undef) [],jf 6 29 [] (undef) [],jf 7 30 [] (undef) [],jf 8 31 [] (.bool true) []] (by kernel_rfl) hSof.out ⟨fun _ _=>⟨rfl,rfl⟩,fun _ _=>⟨rfl,rfl⟩,fun _ _=>⟨rfl,rfl⟩,fun _ _=>⟨rfl,rfl⟩,fun _ _=>⟨rfl,rfl⟩,fun _ _=>⟨rfl,rfl⟩,trivial⟩ ⟨fun _ _ _ _ h _=>h,fun _ _ _ _ h _=>h,fun _ _ _ _ h _=>h,fun _ _ _ _ h _=>h,fun _ _ _ _ h _=>h,fun _ _ _ _ h _=>h,trivial⟩ ⟨⟨?_,?_,trivial⟩,trivial,trivial,trivial,trivial,trivial,trivial⟩ ⟨?_,?_,?_,?_,?_,?_,trivial⟩ ?_
 · refine AD' (h:=fun lv lb=>⟨by rfl,fun w0=>?_⟩)
   simp only [W,Ae,Af',zfa,zfb,zfc,zfd,zfe,Job.ws,jc,jt,jf,ja,jl,zff,zfg,Ag',Act.put,lt,ly,lu]
   go_simp
 · refine AD' (h:=fun lv lb=>⟨by rfl,fun w0=>?_⟩)
   simp only [W,Ae,Af',zfa,zfb,zfc,zfd,zfe,Job.ws,jc,jt,jf,ja,jl,zff,zfg,Ag',Act.put,lt,ly,lu]
   go_simp
 · refine Aj' (h:=fun lv lb U HB hd K hK=>?_)
   simp only [W,Ae,Af',zfa,zfb,zfc,zfd,zfe,Job.ws,jc,jt,jf,ja,jl,zff,zfg,Ag',Act.put,lt,ly,lu]
   go_simp
   go_at_call 35
   refine (Bc e9.out ((hs.out.keep y0_2.out).keep (bS bd.out HB))).mono ?_
   rintro eK u9 ⟨rfl,b9⟩
   exact hK.out undef 0 u9 _ b9 nofun trivial (by kernel_rfl)
 · refine Aj' (h:=fun lv lb U HB hd K hK=>?_)
   simp only [W,Ae,Af',zfa,zfb,zfc,zfd,zfe,Job.ws,jc,jt,jf,ja,jl,zff,zfg,Ag',Act.put,lt,ly,lu]
   go_simp
   exact hK.out undef 0 U _ (Below.refl _ _) nofun trivial (by kernel_rfl)
 · refine Aj' (h:=fun lv lb U HB hd K hK=>?_)
   simp only [W,Ae,Af',zfa,zfb,zfc,zfd,zfe,Job.ws,jc,jt,jf,ja,jl,zff,zfg,Ag',Act.put,lt,ly,lu]
   go_simp
   exact hK.out undef 0 U _ (Below.refl _ _) nofun trivial (by kernel_rfl)
 · refine Aj' (h:=fun lv lb U HB hd K hK=>?_)
   simp only [W,Ae,Af',zfa,zfb,zfc,zfd,zfe,Job.ws,jc,jt,jf,ja,jl,zff,zfg,Ag',Act.put,lt,ly,lu]
   go_simp
   exact hK.out undef 0 U _ (Below.refl _ _) nofun trivial (by kernel_rfl)
 · refine Aj' (h:=fun lv lb U HB hd K hK=>?_)
   simp only [W,Ae,Af',zfa,zfb,zfc,zfd,zfe,Job.ws,jc,jt,jf,ja,jl,zff,zfg,Ag',Act.put,lt,ly,lu]
   go_simp
   exact hK.out undef 0 U _ (Below.refl _ _) nofun trivial (by kernel_rfl)
 · refine Aj' (h:=fun lv lb U HB hd K hK=>?_)
   simp only [W,Ae,Af',zfa,zfb,zfc,zfd,zfe,Job.ws,jc,jt,jf,ja,jl,zff,zfg,Ag',Act.put,lt,ly,lu]
   go_simp
   exact hK.out undef 0 U _ (Below.refl _ _) nofun trivial (by kernel_rfl)
 intro lv lb u HB hF hD
 clear hF hD
 simp only [W,Ae,Af',zfa,zfb,zfc,zfd,zfe,Job.ws,jc,jt,jf,ja,jl,zff,zfg,Ag',Act.put,lt,ly,lu]
 clear lv lb
 refine wpAnyH_done (by kernel_rfl) ?_ _
 have FB:=hid (bS y0_2.out (bS bd.out HB))
 clear hSof
 go_wp2_with fail
 go_ret2
 exact ⟨rfl,FB.out⟩
theorem Gt' {w:World} {v vm vs:Value} {a b r m s:Rat} {A:Option Addr} {c n1:Nat} (hp:AA' w v a b r) (hm:Ac' w vm m) (hs:Ac' w vs s) (hn1:2≤n1) (hn2:n1≤200) (hg:Ar' a b r) (hs0:0≤s) (hs1:1≤s) (sa:Aa' a≤16777216) (sb:Aa' b≤16777216) (ss:Aa' s≤900000) :
   Calls Tryz.prog 7 #[v,.slice A n1 c,vm,vs] w (fun e w'=>e=.returned (.tuple #[.int .u8 0,.int .i64 3])∧Below w.heap.size w w'):=by
 obtain ⟨o,eo⟩:=eY (((1:Int):Rat):Rat)
 obtain ⟨c9,e9⟩:=eY (s.num.sign:Int)
 obtain ⟨c8,e8⟩:=eY (cmpQ s o:Int)
 have ko:Aa' o≤536870912:=by rw [←eo];decide
 have ks:Aa' s≤536870912:=by omega
 have d1:decide (c9<0)=false:=dF_ (by rw [←e9];exact Int.not_lt.2 (Int.sign_nonneg_iff.2 (Rat.num_nonneg.2 hs0)))
 have d2:decide (c8≥0)=true:=dT_ (by rw [←e8,←eo];exact Int.not_lt.1 (fun h=>absurd hs1 (Rat.not_le.2 (cmpQ_lt0.1 h))))
 replace eo:=hid eo
 replace e9:=hid e9
 replace e8:=hid e8
 replace ko:=hid ko
 replace ks:=hid ks
 replace hg:=hid hg
 replace sa:=hid sa
 replace sb:=hid sb
 replace ss:=hid ss
 obtain ⟨C1,j1,C2,j2,C3,j3,C4,j4,C5,j5,C6,j6,rfl,hpg,hpe⟩:=id hp.opened
 replace hp:=hid hp
 replace hpg:=hid hpg
 replace hpe:=hid hpe
 obtain ⟨C7,j7,C8,j8,rfl,-,-⟩:=id hm.opened
 replace hm:=hid hm
 obtain ⟨C9,j9,C10,j10,rfl,-,-⟩:=id hs.opened
 replace hs:=hid hs
 obtain ⟨w1,hw1⟩:=eX ((((w.alloc (.cells #[.bool (decide (a.num<0)),.slice C1 (Vx.len a.num.natAbs) j1,.slice C2 (Vx.len (below a.den)) j2,.bool (decide (b.num<0)),.slice C3 (Vx.len b.num.natAbs) j3,.slice C4 (Vx.len (below b.den)) j4,.bool (decide (r.num<0)),.slice C5 (Vx.len r.num.natAbs) j5,.slice C6 (Vx.len (below r.den)) j6] 39)).alloc (.cells #[.bool (decide (m.num<0)),.slice C7 (Vx.len m.num.natAbs) j7,.slice C8 (Vx.len (below m.den)) j8] 35)).alloc (.cells #[.bool (decide (s.num<0)),.slice C9 (Vx.len s.num.natAbs) j9,.slice C10 (Vx.len (below s.den)) j10] 35)))
 obtain ⟨b1,g1,g2,g3⟩:=AC hw1
 replace g1:=hid g1
 replace g2:=hid g2
 replace g3:=hid g3
 replace b1:=hid b1
 go_enter Tryz.func7,Tryz.ntmps7
 go_upto_region 1 with fail
 rw [←hw1]
 clear hw1
 have hg:w1.heap[w.heap.size]?=some (.cells #[.bool (decide (a.num<0)),.slice C1 (Vx.len a.num.natAbs) j1,.slice C2 (Vx.len (below a.den)) j2,.bool (decide (b.num<0)),.slice C3 (Vx.len b.num.natAbs) j3,.slice C4 (Vx.len (below b.den)) j4,.bool (decide (r.num<0)),.slice C5 (Vx.len r.num.natAbs) j5,.slice C6 (Vx.len (below r.den)) j6] 39 (0,0)):=((Below.refl _ w1).block _ (gE.1 g1.out).1).trans g1.out
 have z_p_0:w1.cell? ⟨w.heap.size,0,none⟩=some (.bool (decide (a.num<0))):=cR _ _ _ _ _ _ hg
 have z_p_1:w1.cell? ⟨w.heap.size,1,none⟩=some (.slice C1 (Vx.len a.num.natAbs) j1):=cR _ _ _ _ _ _ hg
 have z_p_2:w1.cell? ⟨w.heap.size,2,none⟩=some (.slice C2 (Vx.len (below a.den)) j2):=cR _ _ _ _ _ _ hg
 have z_p_3:w1.cell? ⟨w.heap.size,3,none⟩=some (.bool (decide (b.num<0))):=cR _ _ _ _ _ _ hg
 have z_p_4:w1.cell? ⟨w.heap.size,4,none⟩=some (.slice C3 (Vx.len b.num.natAbs) j3):=cR _ _ _ _ _ _ hg
 have z_p_5:w1.cell? ⟨w.heap.size,5,none⟩=some (.slice C4 (Vx.len (below b.den)) j4):=cR _ _ _ _ _ _ hg
 have z_p_6:w1.cell? ⟨w.heap.size,6,none⟩=some (.bool (decide (r.num<0))):=cR _ _ _ _ _ _ hg
 have z_p_7:w1.cell? ⟨w.heap.size,7,none⟩=some (.slice C5 (Vx.len r.num.natAbs) j5):=cR _ _ _ _ _ _ hg
 have z_p_8:w1.cell? ⟨w.heap.size,8,none⟩=some (.slice C6 (Vx.len (below r.den)) j6):=cR _ _ _ _ _ _ hg
 clear hg
 have HX:=hid (Bz (n:=n1) (k:=2) (hp.out.keep b1.out) hg.out sa.out sb.out hn2 hn1)
 go_wp2_with fail
 refine (HX.out).mono ?_
 rintro e w2 ⟨rfl,b2⟩
 replace b2:=hid b2
 clear HX
 obtain ⟨z_s_0,z_s_1,z_s_2⟩:=Ad' (Ab' g3.out b2.out)
 go_upto_region 4 with fail
 have hbs:=Al' (Ab' g3.out b2.out)
 have y0_2:=hid (bS b1.out b2.out)
 go_wp2_with fail
 refine wp_region_held_drew (S:=(fun w'=>w'.cell? ⟨(w.heap.size+2),0,none⟩=w2.cell? ⟨(w.heap.size+2),0,none⟩∧w'.cell? ⟨(w.heap.size+2),1,none⟩=w2.cell? ⟨(w.heap.size+2),1,none⟩∧w'.cell? ⟨(w.heap.size+2),2,none⟩=w2.cell? ⟨(w.heap.size+2),2,none⟩)) (by kernel_rfl) ?_ (fun hHeld=>?_)
 · (try dsimp only)
   exact ⟨rfl,rfl,rfl⟩
 obtain ⟨wd,hwd⟩:=eX w2.drew
 have bd:Hid (Below w2.heap.size w2 wd):=hid (by rw [hwd];exact ⟨rfl,rfl,rfl,nL _,fun _ _=>rfl⟩)
 rw [←hwd] at hHeld ⊢
 clear hwd
 have hSof:Hid (∀ z:World,Below wd.heap.size wd z→z.cell? ⟨(w.heap.size+2),0,none⟩=w2.cell? ⟨(w.heap.size+2),0,none⟩∧z.cell? ⟨(w.heap.size+2),1,none⟩=w2.cell? ⟨(w.heap.size+2),1,none⟩∧z.cell? ⟨(w.heap.size+2),2,none⟩=w2.cell? ⟨(w.heap.size+2),2,none⟩):=hid (fun z hz=>by
   have k:=bS bd.out hz
   exact ⟨k.cell (p:=⟨(w.heap.size+2),0,none⟩) hbs,k.cell (p:=⟨(w.heap.size+2),1,none⟩) hbs,k.cell (p:=⟨(w.heap.size+2),2,none⟩) hbs⟩)
 refine tk (i:=0) (h:=?_)
 try simp only [Act.put,lt,ly,lu]
 clear hHeld
 refine AK (base:=0) [jf 1 24 [] (.int .i64 c9) [⟨2,25,fun lv lb=>.bool false⟩,⟨3,26,fun lv lb=>.bool false⟩],jf 4 27 [] (.agg #[.bool (decide (s.num<0)),.slice C9 (Vx.len s.num.natAbs) j9,.slice C10 (Vx.len (below s.den)) j10]) [],jc 5 28 [] (fun V U=>Ac' U V o) [],jf 6 29 [4,5] (.int .i64 c8) [⟨7,30,fun lv lb=>.bool true⟩,⟨8,31,fun lv lb=>.bool true⟩]] (by kernel_rfl) hSof.out ⟨fun _ _=>⟨rfl,rfl⟩,fun _ _=>⟨rfl,rfl⟩,fun _ _=>⟨rfl,rfl⟩,fun _ _=>⟨rfl,rfl⟩,trivial⟩ ⟨fun _ _ _ _ h _=>h,fun _ _ _ _ h _=>h,fun _ _ _ _ h hb=>h.keep hb,fun _ _ _ _ h _=>h,trivial⟩ ⟨⟨?_,?_,trivial⟩,trivial,trivial,⟨?_,?_,trivial⟩,trivial⟩ ⟨?_,?_,?_,?_,trivial⟩ ?_
 · refine AD' (h:=fun lv lb=>⟨by rfl,fun w0=>?_⟩)
   simp only [W,Ae,Af',zfa,zfb,zfc,zfd,zfe,Job.ws,jc,jt,jf,ja,jl,zff,zfg,Ag',Act.put,lt,ly,lu]
   go_simp
 · refine AD' (h:=fun lv lb=>⟨by rfl,fun w0=>?_⟩)
   simp only [W,Ae,Af',zfa,zfb,zfc,zfd,zfe,Job.ws,jc,jt,jf,ja,jl,zff,zfg,Ag',Act.put,lt,ly,lu]
   go_simp
 · refine AD' (h:=fun lv lb=>⟨by kernel_rfl,fun w0=>?_⟩)
   simp only [W,Ae,Af',zfa,zfb,zfc,zfd,zfe,Job.ws,jc,jt,jf,ja,jl,zff,zfg,Ag',Act.put,lt,ly,lu]
   go_simp
 · refine AD' (h:=fun lv lb=>⟨by rfl,fun w0=>?_⟩)
   simp only [W,Ae,Af',zfa,zfb,zfc,zfd,zfe,Job.ws,jc,jt,jf,ja,jl,zff,zfg,Ag',Act.put,lt,ly,lu]
   go_simp
 · refine Aj' (h:=fun lv lb U HB hd K hK=>?_)
   simp only [W,Ae,Af',zfa,zfb,zfc,zfd,zfe,Job.ws,jc,jt,jf,ja,jl,zff,zfg,Ag',Act.put,lt,ly,lu]
   go_simp
   go_at_call 35
   refine (Bc e9.out ((hs.out.keep y0_2.out).keep (bS bd.out HB))).mono ?_
   rintro eK u9 ⟨rfl,b9⟩
   exact hK.out undef 0 u9 _ b9 nofun trivial (by kernel_rfl)
 · refine Aj' (h:=fun lv lb U HB hd K hK=>?_)
   simp only [W,Ae,Af',zfa,zfb,zfc,zfd,zfe,Job.ws,jc,jt,jf,ja,jl,zff,zfg,Ag',Act.put,lt,ly,lu]
   have Z:=hSof.out U HB
   obtain ⟨Z0,Z1,Z2⟩:=Z
   rw [z_s_0] at Z0
   rw [z_s_1] at Z1
   rw [z_s_2] at Z2
   go_simp
   exact hK.out undef 0 U _ (Below.refl _ _) nofun trivial (by kernel_rfl)
 · refine Aj' (h:=fun lv lb U HB hd K hK=>?_)
   simp only [W,Ae,Af',zfa,zfb,zfc,zfd,zfe,Job.ws,jc,jt,jf,ja,jl,zff,zfg,Ag',Act.put,lt,ly,lu]
   go_simp
   go_at_call 18
   refine (AE' (w:=U) eo.out (by omega) (by omega)).mono ?_
   rintro eK u9 ⟨V,rfl,kk,b9⟩
   exact hK.out V 0 u9 _ b9 nofun kk (by kernel_rfl)
 · refine Aj' (h:=fun lv lb U HB hd K hK=>?_)
   have k5:Ac' U (lv 5) o:=hd.2.2.1 rfl
   simp only [W,Ae,Af',zfa,zfb,zfc,zfd,zfe,Job.ws,jc,jt,jf,ja,jl,zff,zfg,Ag',Act.put,lt,ly,lu]
   go_simp
   go_at_call 17
   refine (Bf' e8.out ((hs.out.keep y0_2.out).keep (bS bd.out HB)) k5 ks.out ko.out).mono ?_
   rintro eK u9 ⟨rfl,b9⟩
   exact hK.out undef 0 u9 _ b9 nofun trivial (by kernel_rfl)
 intro lv lb u HB hF hD
 have k5:=hF.2.2.1.1
 clear hF hD
 simp only [W,Ae,Af',zfa,zfb,zfc,zfd,zfe,Job.ws,jc,jt,jf,ja,jl,zff,zfg,Ag',Act.put,lt,ly,lu]
 replace k5:Ac' u (lv 5) o:=k5
 generalize lv 5=v5 at *
 clear lv lb
 refine wpAnyH_done (by kernel_rfl) ?_ _
 have FB:=hid (bS y0_2.out (bS bd.out HB))
 clear hSof
 go_wp2_with fail
 go_ret2
 exact ⟨rfl,FB.out⟩
theorem FG' {w:World} {v u:Value} {a b c d o:Rat} (ho:0=o) (hv:Ao' w v a b) (hu:Ao' w u c d) (sa:Aa' a≤1073741824) (sb:Aa' b≤1073741824) (sc:Aa' c≤1073741824) (sd:Aa' d≤1073741824) (h:(c≤0∧0≤d)) :
   Calls Tryz.prog 38 #[v,u] w (B1' w o o 10):=ho ▸ FD hv hu sa sb sc sd h
theorem Gu {w:World} {a b r m x z:Rat} {rb ro c n n1 mp pp:Nat} {l:List Rat} {A7 B7 P1 P2 P3 Q1 Q2 Q3:Option Addr} {c7 d7 p1 p2 p3 q1 q2 q3:Nat} {y0 y2 y3 y5 y7 y8 y9 y10 y13 y14 y15 y16 y17 y18 y19 y20 y21 y22 y23 y24 y25 y26 y27 y28 y29 y30 y31 y32 y33 y34 y35 y36 y37 y38 y39 y40 y41 y42 y43 y44 y45 y46 y47 y48 y49 y50 y51 y52 y53 y54 y55 y56 y57 y58 y59 y60 y61 y62 y63 y64 y65 y66 y67 y68:Value} {Po:Ending→World→Prop} (hl:AG w rb ro l) (hz:l[n]?=some z) (hx0:l[0]?=some x) (hn1:n1=n+1) (hn2:n≤200) (hA:w.heap[mp]?=some (.cells #[.bool (decide (m.num<0)),.slice A7 (Vx.len m.num.natAbs) c7,.slice B7 (Vx.len (below m.den)) d7] 35 (0,0))) (hAn:Ac' w (.agg #[.bool (decide (m.num<0)),.slice A7 (Vx.len m.num.natAbs) c7,.slice B7 (Vx.len (below m.den)) d7]) m) (hPp:w.heap[pp]?=some (.cells #[.bool (decide (a.num<0)),.slice P1 (Vx.len a.num.natAbs) p1,.slice Q1 (Vx.len (below a.den)) q1,.bool (decide (b.num<0)),.slice P2 (Vx.len b.num.natAbs) p2,.slice Q2 (Vx.len (below b.den)) q2,.bool (decide (r.num<0)),.slice P3 (Vx.len r.num.natAbs) p3,.slice Q3 (Vx.len (below r.den)) q3] 39 (0,0))) (hPn:Ac' w (.agg #[.bool (decide (r.num<0)),.slice P3 (Vx.len r.num.natAbs) p3,.slice Q3 (Vx.len (below r.den)) q3]) r) (sz:Aa' z≤1000000) (sx:Aa' x≤1000000) (sA:Aa' m≤1000000) (sr:Aa' r≤1000000) (hr0:0≤r) (h0:x - m - r≤0∧0≤x - m+r) (hPo:∀ w',Below w.heap.size w w'→Po (.returned (.tuple #[.int .u8 0,.int .i64 42])) w') :
   (codeAt 5 Tryz.f7).wp Tryz.prog (bodyPost Tryz.prog Tryz.f7 Po) { tmps:=#[y0,.slice (some ⟨rb,ro,none⟩) n1 c,y2,y3,.pointer (some ⟨pp,0,none⟩),y5,.pointer (some ⟨mp,0,none⟩),y7,y8,y9,y10,.int .i64 ((n:Nat):Int),.func (.func 36) #[] #[.pointer (some ⟨mp,0,none⟩),.pointer (some ⟨pp,0,none⟩)],y13,y14,y15,y16,y17,y18,y19,y20,y21,y22,y23,y24,y25,y26,y27,y28,y29,y30,y31,y32,y33,y34,y35,y36,y37,y38,y39,y40,y41,y42,y43,y44,y45,y46,y47,y48,y49,y50,y51,y52,y53,y54,y55,y56,y57,y58,y59,y60,y61,y62,y63,y64,y65,y66,y67,y68],defers:=[] } w:=by
 obtain ⟨o,eo⟩:=eY ((0:Rat):Rat)
 obtain ⟨A5,c5,B5,d5,e0,e1,e2,hx⟩:=hl.at (i:=n) hz
 obtain ⟨A6,c6,B6,d6,f0,f1,f2,hy⟩:=hl.at (i:=0) hx0
 simp only [Nat.zero_mul,Nat.add_zero] at f0 f1 f2
 have hrb:=bL w _ f0
 have hnl:n<n1:=by omega
 have hn0:0<n1:=by omega
 obtain ⟨l0,el0⟩:=eY (z - m - r:Rat)
 obtain ⟨l1,el1⟩:=eY (z - m+r:Rat)
 obtain ⟨g0,eg0⟩:=eY (x - m - r:Rat)
 obtain ⟨g1,eg1⟩:=eY (x - m+r:Rat)
 rw [eg0,eg1] at h0
 have a1:=Vx.AC' z m
 have a2:=Vx.AC' (z - m) r
 have a3:=Vx.A9' (z - m) r
 have a4:=Vx.AC' x m
 have a5:=Vx.AC' (x - m) r
 have a6:=Vx.A9' (x - m) r
 rw [el0] at a2
 rw [el1] at a3
 rw [eg0] at a5
 rw [eg1] at a6
 have t1:Aa' l0≤4000000:=by omega
 have t2:Aa' l1≤4000000:=by omega
 have t3:Aa' g0≤4000000:=by omega
 have t4:Aa' g1≤4000000:=by omega
 clear a1 a2 a3 a4 a5 a6 hz hx0
 replace eo:=hid eo
 replace el0:=hid el0
 replace el1:=hid el1
 replace eg0:=hid eg0
 replace eg1:=hid eg1
 replace h0:=hid h0
 replace t1:=hid t1
 replace t2:=hid t2
 replace t3:=hid t3
 replace t4:=hid t4
 replace hx:=hid hx
 replace hy:=hid hy
 replace hl:=hid hl
 replace hA:=hid hA
 replace hAn:=hid hAn
 replace hPp:=hid hPp
 replace hPn:=hid hPn
 replace sz:=hid sz
 replace sx:=hid sx
 replace sA:=hid sA
 replace sr:=hid sr
 replace hPo:=hid hPo
 replace hr0:=hid hr0
 replace hn1:=hid hn1
 show Code.wp _ (Code.seq _ _) _ _ _
 go_upto_region 8 with fail
 rename_i G hG
 replace hG:=hid hG
 go_wp2_with fail
 refine wp_region_held_drew (S:=(fun w'=>w'.cell? ⟨rb,ro+n*3,none⟩=w.cell? ⟨rb,ro+n*3,none⟩∧w'.cell? ⟨rb,ro+n*3+1,none⟩=w.cell? ⟨rb,ro+n*3+1,none⟩∧w'.cell? ⟨rb,ro+n*3+2,none⟩=w.cell? ⟨rb,ro+n*3+2,none⟩∧w'.cell? ⟨rb,ro,none⟩=w.cell? ⟨rb,ro,none⟩∧w'.cell? ⟨rb,ro+1,none⟩=w.cell? ⟨rb,ro+1,none⟩∧w'.cell? ⟨rb,ro+2,none⟩=w.cell? ⟨rb,ro+2,none⟩)) (by kernel_rfl) ?_ (fun hHeld=>?_)
 · (try dsimp only)
   exact ⟨rfl,rfl,rfl,rfl,rfl,rfl⟩
 obtain ⟨wd,hwd⟩:=eX w.drew
 have bd:Hid (Below w.heap.size w wd):=hid (by rw [hwd];exact ⟨rfl,rfl,rfl,nL _,fun _ _=>rfl⟩)
 rw [←hwd] at hHeld ⊢
 clear hwd
 have hSof:Hid (∀ z:World,Below wd.heap.size wd z→z.cell? ⟨rb,ro+n*3,none⟩=w.cell? ⟨rb,ro+n*3,none⟩∧z.cell? ⟨rb,ro+n*3+1,none⟩=w.cell? ⟨rb,ro+n*3+1,none⟩∧z.cell? ⟨rb,ro+n*3+2,none⟩=w.cell? ⟨rb,ro+n*3+2,none⟩∧z.cell? ⟨rb,ro,none⟩=w.cell? ⟨rb,ro,none⟩∧z.cell? ⟨rb,ro+1,none⟩=w.cell? ⟨rb,ro+1,none⟩∧z.cell? ⟨rb,ro+2,none⟩=w.cell? ⟨rb,ro+2,none⟩):=hid (fun z hz=>by
   have k:=bS bd.out hz
   exact ⟨k.cell (p:=⟨rb,ro+n*3,none⟩) hrb,k.cell (p:=⟨rb,ro+n*3+1,none⟩) hrb,k.cell (p:=⟨rb,ro+n*3+2,none⟩) hrb,k.cell (p:=⟨rb,ro,none⟩) hrb,k.cell (p:=⟨rb,ro+1,none⟩) hrb,k.cell (p:=⟨rb,ro+2,none⟩) hrb⟩)
 refine tk (i:=0) (h:=?_)
 try simp only [Act.put,lt,ly,lu]
 refine tk (i:=1) (h:=?_)
 try simp only [Act.put,lt,ly,lu]
 refine tk (i:=2) (h:=?_)
 try simp only [Act.put,lt,ly,lu]
 refine tk (i:=3) (h:=?_)
 try simp only [Act.put,lt,ly,lu]
 refine tk (i:=4) (h:=?_)
 try simp only [Act.put,lt,ly,lu]
 refine tk (i:=6) (h:=?_)
 try simp only [Act.put,lt,ly,lu]
 refine tk (i:=7) (h:=?_)
 try simp only [Act.put,lt,ly,lu]
 refine tk (i:=8) (h:=?_)
 try simp only [Act.put,lt,ly,lu]
 refine tk (i:=9) (h:=?_)
 try simp only [Act.put,lt,ly,lu]
 clear hHeld
 refine AK (base:=2) [jc 5 42 [] (fun V U=>Ao' U V l0 l1) [],jc 10 47 [] (fun V U=>Ao' U V g0 g1) [],jt 11 48 [5,10] (.int .i64 10) (fun V U=>Ao' U V o o) [⟨12,36,fun lv lb=>.tuple #[lv 11,.int .i64 10]⟩,⟨13,49,fun lv lb=>lv 11⟩,⟨14,50,fun lv lb=>.int .i64 10⟩],ja 15 13 (.cells #[.bool false,.slice none 0 0,.slice none 0 0,.bool false,.slice none 0 0,.slice none 0 0] 37)] (by kernel_rfl) hSof.out ⟨fun _ _=>⟨rfl,rfl⟩,fun _ _=>⟨rfl,rfl⟩,fun _ _=>⟨rfl,rfl⟩,fun _ _=>⟨rfl,rfl⟩,trivial⟩ ⟨fun _ _ _ _ h hb=>h.keep hb,fun _ _ _ _ h hb=>h.keep hb,fun _ _ _ _ h hb=>h.keep hb,B4' _ _ _,trivial⟩ ⟨trivial,trivial,⟨?_,?_,?_,trivial⟩,trivial,trivial⟩ ⟨?_,?_,?_,?_,trivial⟩ ?_
 · refine AD' (h:=fun lv lb=>⟨by rfl,fun w0=>?_⟩)
   simp only [W,Ae,Af',zfa,zfb,zfc,zfd,zfe,Job.ws,jc,jt,jf,ja,jl,zff,zfg,Ag',Act.put,lt,ly,lu]
   go_simp
 · refine AD' (h:=fun lv lb=>⟨by rfl,fun w0=>?_⟩)
   simp only [W,Ae,Af',zfa,zfb,zfc,zfd,zfe,Job.ws,jc,jt,jf,ja,jl,zff,zfg,Ag',Act.put,lt,ly,lu]
   go_simp
 · refine AD' (h:=fun lv lb=>⟨by rfl,fun w0=>?_⟩)
   simp only [W,Ae,Af',zfa,zfb,zfc,zfd,zfe,Job.ws,jc,jt,jf,ja,jl,zff,zfg,Ag',Act.put,lt,ly,lu]
   go_simp
 · refine Aj' (h:=fun lv lb U HB hd K hK=>?_)
   simp only [W,Ae,Af',zfa,zfb,zfc,zfd,zfe,Job.ws,jc,jt,jf,ja,jl,zff,zfg,Ag',Act.put,lt,ly,lu]
   go_simp
   go_at_call 36
   refine (CH' (hx.out.keep (bS bd.out HB)) (Ab' hA.out (bS bd.out HB)) (hAn.out.keep (bS bd.out HB)) (Ab' hPp.out (bS bd.out HB)) (hPn.out.keep (bS bd.out HB)) sz.out sA.out sr.out hr0.out el0.out el1.out).mono ?_
   rintro eK u9 ⟨V,rfl,kk,b9⟩
   exact hK.out V 0 u9 _ b9 nofun kk (by kernel_rfl)
 · refine Aj' (h:=fun lv lb U HB hd K hK=>?_)
   simp only [W,Ae,Af',zfa,zfb,zfc,zfd,zfe,Job.ws,jc,jt,jf,ja,jl,zff,zfg,Ag',Act.put,lt,ly,lu]
   go_simp
   go_at_call 36
   refine (CH' (hy.out.keep (bS bd.out HB)) (Ab' hA.out (bS bd.out HB)) (hAn.out.keep (bS bd.out HB)) (Ab' hPp.out (bS bd.out HB)) (hPn.out.keep (bS bd.out HB)) sx.out sA.out sr.out hr0.out eg0.out eg1.out).mono ?_
   rintro eK u9 ⟨V,rfl,kk,b9⟩
   exact hK.out V 0 u9 _ b9 nofun kk (by kernel_rfl)
 · refine Aj' (h:=fun lv lb U HB hd K hK=>?_)
   have k5:Ao' U (lv 5) l0 l1:=hd.1 rfl
   have k10:Ao' U (lv 10) g0 g1:=hd.2.1 rfl
   simp only [W,Ae,Af',zfa,zfb,zfc,zfd,zfe,Job.ws,jc,jt,jf,ja,jl,zff,zfg,Ag',Act.put,lt,ly,lu]
   go_simp
   go_at_call 38
   refine (FG' eo.out k5 k10 (nT t1.out (by omega)) (nT t2.out (by omega)) (nT t3.out (by omega)) (nT t4.out (by omega)) h0.out).mono ?_
   rintro eK u9 ⟨V,rfl,kk,b9⟩
   exact hK.out V 0 u9 _ b9 nofun kk (by kernel_rfl)
 · refine Cl' (h:=fun lv lb U=>⟨by rfl,?_⟩)
   simp only [W,Ae,Af',zfa,zfb,zfc,zfd,zfe,Job.ws,jc,jt,jf,ja,jl,zff,zfg,Ag',Act.put,lt,ly,lu]
   go_simp
 intro lv lb u HB hF hD
 have k5:=hF.1.1
 have k10:=hF.2.1.1
 have k11:=hF.2.2.1.1
 have k15:=hF.2.2.2.1.1
 have l15:=hF.2.2.2.1.2 rfl
 clear hF hD
 simp only [W,Ae,Af',zfa,zfb,zfc,zfd,zfe,Job.ws,jc,jt,jf,ja,jl,zff,zfg,Ag',Act.put,lt,ly,lu]
 replace k5:Ao' u (lv 5) l0 l1:=k5
 replace k10:Ao' u (lv 10) g0 g1:=k10
 replace k11:Ao' u (lv 11) o o:=k11
 replace k15:u.heap[lb 15]?=some (.cells #[.bool false,.slice none 0 0,.slice none 0 0,.bool false,.slice none 0 0,.slice none 0 0] 37):=k15
 replace l15:wd.heap.size≤lb 15:=l15
 generalize lb 15=b15 at *
 generalize lv 5=v5 at *
 generalize lv 10=v10 at *
 generalize lv 11=v11 at *
 clear lv lb
 obtain ⟨Aq,cq,Bq,dq,Eq,eq,Gq,gq,rfl,-,-,-,-⟩:=id k11.opened
 refine BA' (fun i=>i==16) (by kernel_rfl) (fun i hp=>?_)
 obtain rfl:=beq_iff_eq.1 hp
 clear hp
 refine AllReadyH.cons (o:=?o16) ?e16 ?k16 AllReadyH.nil
 case e16=>simp only [lg,lz,ls] <;> rfl
 intro K hK
 have D16:=k15
 obtain ⟨q0,q1,q2,q3,q4,q5⟩:=Aj D16
 have F0:=fR u b15 0 _ _ D16
 have F1:=fR u b15 1 _ _ D16
 have F2:=fR u b15 2 _ _ D16
 have F3:=fR u b15 3 _ _ D16
 have F4:=fR u b15 4 _ _ D16
 have F5:=fR u b15 5 _ _ D16
 go_simp
 clear q0 F0 q1 F1 q2 F2 q3 F3 q4 F4 q5 F5
 obtain ⟨u2,hw⟩:=eX (((((((u.setCell ⟨b15,0,none⟩ (.bool (decide (o.num<0)))).setCell ⟨b15,1,none⟩ (.slice Aq (Vx.len o.num.natAbs) cq)).setCell ⟨b15,2,none⟩ (.slice Bq (Vx.len (below o.den)) dq)).setCell ⟨b15,3,none⟩ (.bool (decide (o.num<0)))).setCell ⟨b15,4,none⟩ (.slice Eq (Vx.len o.num.natAbs) eq)).setCell ⟨b15,5,none⟩ (.slice Gq (Vx.len (below o.den)) gq)))
 obtain ⟨E16,OT,LV,BL⟩:=AF D16 hw
 rw [←hw]
 clear hw
 have HB16:=BL _ _ l15 HB

 refine hK.out _ _ (hSof.out _ HB16) (fun _=>?_)
 clear hK K OT LV BL D16
 try simp only [Act.put,lt,ly,lu]
 have hHeld:=hSof.out _ HB16
 refine tk (i:=17) (h:=?_)
 try simp only [Act.put,lt,ly,lu]
 refine wpAnyH_done (by kernel_rfl) ?_ _
 have FB:=hid (bS bd.out HB16)
 clear hHeld hSof
 go_wp2_with fail
 refine hG.out _ _ ?_
 show Code.wp _ (Code.seq _ _) _ _ _
 go_wp2_with fail
 exact hPo.out _ FB.out
theorem FH {w:World} {v vm vs:Value} {a b r m s x z:Rat} {rb ro c n n1:Nat} {l:List Rat} (hp:AA' w v a b r) (hm:Ac' w vm m) (hs:Ac' w vs s) (hl:AG w rb ro l) (hz:l[n]?=some z) (hx0:l[0]?=some x) (hn1:n1=n+1) (hn:1≤n) (hn2:n≤199) (hg:Ar' a b r) (hs0:0≤s) (hs1:s<1) (sz:Aa' z≤1000000) (sx:Aa' x≤1000000) (sm:Aa' m≤1000000) (ss:Aa' s≤900000) (sr:Aa' r≤1000000) (sg:Aa' a≤1000000∧Aa' b≤1000000) (h0:x - m - r≤0∧0≤x - m+r) :
   Calls Tryz.prog 7 #[v,.slice (some ⟨rb,ro,none⟩) n1 c,vm,vs] w (fun e w'=>e=.returned (.tuple #[.int .u8 0,.int .i64 42])∧Below w.heap.size w w'):=by
 obtain ⟨o,eo⟩:=eY (((1:Int):Rat):Rat)
 obtain ⟨c9,e9⟩:=eY (s.num.sign:Int)
 obtain ⟨c8,e8⟩:=eY (cmpQ s o:Int)
 have d1:decide (c9<0)=false:=dF_ (by rw [←e9];exact Int.not_lt.2 (Int.sign_nonneg_iff.2 (Rat.num_nonneg.2 hs0)))
 have d2:decide (c8≥0)=false:=dF_ (by rw [←e8];have:cmpQ s o<0:=cmpQ_lt0.2 (by rw [←eo];exact hs1);omega)
 have ko:Aa' o≤536870912:=by rw [←eo];decide
 have ks:Aa' s≤536870912:=by omega
 have hwk:IntKind.i64.wrap (((n1:Nat):Int) - 1)=((n:Nat):Int):=by
   subst hn1
   unfold IntKind.wrap
   simp [IntKind.bits,IntKind.signed]
   omega
 have hn1le:n1≤200:=by omega
 have hn1ge:2≤n1:=by omega
 replace eo:=hid eo
 replace e9:=hid e9
 replace e8:=hid e8
 replace ko:=hid ko
 replace ks:=hid ks
 replace hl:=hid hl
 replace hz:=hid hz
 replace hx0:=hid hx0
 replace hg:=hid hg
 replace sz:=hid sz
 replace sx:=hid sx
 replace sm:=hid sm
 replace ss:=hid ss
 replace sr:=hid sr
 replace sg:=hid sg
 replace h0:=hid h0
 replace hs0:=hid hs0
 replace hs1:=hid hs1
 replace hn1:=hid hn1
 obtain ⟨C1,j1,C2,j2,C3,j3,C4,j4,C5,j5,C6,j6,rfl,hpg,hpe⟩:=id hp.opened
 replace hp:=hid hp
 replace hpg:=hid hpg
 replace hpe:=hid hpe
 obtain ⟨C7,j7,C8,j8,rfl,-,-⟩:=id hm.opened
 replace hm:=hid hm
 obtain ⟨C9,j9,C10,j10,rfl,-,-⟩:=id hs.opened
 replace hs:=hid hs
 obtain ⟨w1,hw1⟩:=eX ((((w.alloc (.cells #[.bool (decide (a.num<0)),.slice C1 (Vx.len a.num.natAbs) j1,.slice C2 (Vx.len (below a.den)) j2,.bool (decide (b.num<0)),.slice C3 (Vx.len b.num.natAbs) j3,.slice C4 (Vx.len (below b.den)) j4,.bool (decide (r.num<0)),.slice C5 (Vx.len r.num.natAbs) j5,.slice C6 (Vx.len (below r.den)) j6] 39)).alloc (.cells #[.bool (decide (m.num<0)),.slice C7 (Vx.len m.num.natAbs) j7,.slice C8 (Vx.len (below m.den)) j8] 35)).alloc (.cells #[.bool (decide (s.num<0)),.slice C9 (Vx.len s.num.natAbs) j9,.slice C10 (Vx.len (below s.den)) j10] 35)))
 obtain ⟨b1,g1,g2,g3⟩:=AC hw1
 replace g1:=hid g1
 replace g2:=hid g2
 replace g3:=hid g3
 replace b1:=hid b1
 go_enter Tryz.func7,Tryz.ntmps7
 go_upto_region 1 with fail
 rw [←hw1]
 clear hw1
 have hg:w1.heap[w.heap.size]?=some (.cells #[.bool (decide (a.num<0)),.slice C1 (Vx.len a.num.natAbs) j1,.slice C2 (Vx.len (below a.den)) j2,.bool (decide (b.num<0)),.slice C3 (Vx.len b.num.natAbs) j3,.slice C4 (Vx.len (below b.den)) j4,.bool (decide (r.num<0)),.slice C5 (Vx.len r.num.natAbs) j5,.slice C6 (Vx.len (below r.den)) j6] 39 (0,0)):=((Below.refl _ w1).block _ (gE.1 g1.out).1).trans g1.out
 have z_p_0:w1.cell? ⟨w.heap.size,0,none⟩=some (.bool (decide (a.num<0))):=cR _ _ _ _ _ _ hg
 have z_p_1:w1.cell? ⟨w.heap.size,1,none⟩=some (.slice C1 (Vx.len a.num.natAbs) j1):=cR _ _ _ _ _ _ hg
 have z_p_2:w1.cell? ⟨w.heap.size,2,none⟩=some (.slice C2 (Vx.len (below a.den)) j2):=cR _ _ _ _ _ _ hg
 have z_p_3:w1.cell? ⟨w.heap.size,3,none⟩=some (.bool (decide (b.num<0))):=cR _ _ _ _ _ _ hg
 have z_p_4:w1.cell? ⟨w.heap.size,4,none⟩=some (.slice C3 (Vx.len b.num.natAbs) j3):=cR _ _ _ _ _ _ hg
 have z_p_5:w1.cell? ⟨w.heap.size,5,none⟩=some (.slice C4 (Vx.len (below b.den)) j4):=cR _ _ _ _ _ _ hg
 have z_p_6:w1.cell? ⟨w.heap.size,6,none⟩=some (.bool (decide (r.num<0))):=cR _ _ _ _ _ _ hg
 have z_p_7:w1.cell? ⟨w.heap.size,7,none⟩=some (.slice C5 (Vx.len r.num.natAbs) j5):=cR _ _ _ _ _ _ hg
 have z_p_8:w1.cell? ⟨w.heap.size,8,none⟩=some (.slice C6 (Vx.len (below r.den)) j6):=cR _ _ _ _ _ _ hg
 clear hg
 have HX:=hid (Bz (n:=n1) (k:=2) (hp.out.keep b1.out) hg.out (nT sg.out.1 (by omega)) (nT sg.out.2 (by omega)) hn1le hn1ge)
 go_wp2_with fail
 refine (HX.out).mono ?_
 rintro e w2 ⟨rfl,b2⟩
 replace b2:=hid b2
 clear HX
 obtain ⟨z_s_0,z_s_1,z_s_2⟩:=Ad' (Ab' g3.out b2.out)
 go_upto_region 4 with fail
 have hbs:=Al' (Ab' g3.out b2.out)
 have y0_2:=hid (bS b1.out b2.out)
 go_wp2_with fail
 refine wp_region_held_drew (S:=(fun w'=>w'.cell? ⟨(w.heap.size+2),0,none⟩=w2.cell? ⟨(w.heap.size+2),0,none⟩∧w'.cell? ⟨(w.heap.size+2),1,none⟩=w2.cell? ⟨(w.heap.size+2),1,none⟩∧w'.cell? ⟨(w.heap.size+2),2,none⟩=w2.cell? ⟨(w.heap.size+2),2,none⟩)) (by kernel_rfl) ?_ (fun hHeld=>?_)
 · (try dsimp only)
   exact ⟨rfl,rfl,rfl⟩
 obtain ⟨wd,hwd⟩:=eX w2.drew
 have bd:Hid (Below w2.heap.size w2 wd):=hid (by rw [hwd];exact ⟨rfl,rfl,rfl,nL _,fun _ _=>rfl⟩)
 rw [←hwd] at hHeld ⊢
 clear hwd
 have hSof:Hid (∀ z:World,Below wd.heap.size wd z→z.cell? ⟨(w.heap.size+2),0,none⟩=w2.cell? ⟨(w.heap.size+2),0,none⟩∧z.cell? ⟨(w.heap.size+2),1,none⟩=w2.cell? ⟨(w.heap.size+2),1,none⟩∧z.cell? ⟨(w.heap.size+2),2,none⟩=w2.cell? ⟨(w.heap.size+2),2,none⟩):=hid (fun z hz=>by
   have k:=bS bd.out hz
   exact ⟨k.cell (p:=⟨(w.heap.size+2),0,none⟩) hbs,k.cell (p:=⟨(w.heap.size+2),1,none⟩) hbs,k.cell (p:=⟨(w.heap.size+2),2,none⟩) hbs⟩)
 refine tk (i:=0) (h:=?_)
 try simp only [Act.put,lt,ly,lu]
 clear hHeld
 refine AK (base:=0) [jf 1 24 [] (.int .i64 c9) [⟨2,25,fun lv lb=>.bool false⟩,⟨3,26,fun lv lb=>.bool false⟩],jf 4 27 [] (.agg #[.bool (decide (s.num<0)),.slice C9 (Vx.len s.num.natAbs) j9,.slice C10 (Vx.len (below s.den)) j10]) [],jc 5 28 [] (fun V U=>Ac' U V o) [],jf 6 29 [4,5] (.int .i64 c8) [⟨7,30,fun lv lb=>.bool false⟩,⟨8,31,fun lv lb=>.bool false⟩]] (by kernel_rfl) hSof.out ⟨fun _ _=>⟨rfl,rfl⟩,fun _ _=>⟨rfl,rfl⟩,fun _ _=>⟨rfl,rfl⟩,fun _ _=>⟨rfl,rfl⟩,trivial⟩ ⟨fun _ _ _ _ h _=>h,fun _ _ _ _ h _=>h,fun _ _ _ _ h hb=>h.keep hb,fun _ _ _ _ h _=>h,trivial⟩ ⟨⟨?_,?_,trivial⟩,trivial,trivial,⟨?_,?_,trivial⟩,trivial⟩ ⟨?_,?_,?_,?_,trivial⟩ ?_
 · refine AD' (h:=fun lv lb=>⟨by rfl,fun w0=>?_⟩)
   simp only [W,Ae,Af',zfa,zfb,zfc,zfd,zfe,Job.ws,jc,jt,jf,ja,jl,zff,zfg,Ag',Act.put,lt,ly,lu]
   go_simp
 · refine AD' (h:=fun lv lb=>⟨by rfl,fun w0=>?_⟩)
   simp only [W,Ae,Af',zfa,zfb,zfc,zfd,zfe,Job.ws,jc,jt,jf,ja,jl,zff,zfg,Ag',Act.put,lt,ly,lu]
   go_simp
 · refine AD' (h:=fun lv lb=>⟨by kernel_rfl,fun w0=>?_⟩)
   simp only [W,Ae,Af',zfa,zfb,zfc,zfd,zfe,Job.ws,jc,jt,jf,ja,jl,zff,zfg,Ag',Act.put,lt,ly,lu]
   go_simp
 · refine AD' (h:=fun lv lb=>⟨by rfl,fun w0=>?_⟩)
   simp only [W,Ae,Af',zfa,zfb,zfc,zfd,zfe,Job.ws,jc,jt,jf,ja,jl,zff,zfg,Ag',Act.put,lt,ly,lu]
   go_simp
 · refine Aj' (h:=fun lv lb U HB hd K hK=>?_)
   simp only [W,Ae,Af',zfa,zfb,zfc,zfd,zfe,Job.ws,jc,jt,jf,ja,jl,zff,zfg,Ag',Act.put,lt,ly,lu]
   go_simp
   go_at_call 35
   refine (Bc e9.out ((hs.out.keep y0_2.out).keep (bS bd.out HB))).mono ?_
   rintro eK u9 ⟨rfl,b9⟩
   exact hK.out undef 0 u9 _ b9 nofun trivial (by kernel_rfl)
 · refine Aj' (h:=fun lv lb U HB hd K hK=>?_)
   simp only [W,Ae,Af',zfa,zfb,zfc,zfd,zfe,Job.ws,jc,jt,jf,ja,jl,zff,zfg,Ag',Act.put,lt,ly,lu]
   have Z:=hSof.out U HB
   obtain ⟨Z0,Z1,Z2⟩:=Z
   rw [z_s_0] at Z0
   rw [z_s_1] at Z1
   rw [z_s_2] at Z2
   go_simp
   exact hK.out undef 0 U _ (Below.refl _ _) nofun trivial (by kernel_rfl)
 · refine Aj' (h:=fun lv lb U HB hd K hK=>?_)
   simp only [W,Ae,Af',zfa,zfb,zfc,zfd,zfe,Job.ws,jc,jt,jf,ja,jl,zff,zfg,Ag',Act.put,lt,ly,lu]
   go_simp
   go_at_call 18
   refine (AE' (w:=U) eo.out (by omega) (by omega)).mono ?_
   rintro eK u9 ⟨V,rfl,kk,b9⟩
   exact hK.out V 0 u9 _ b9 nofun kk (by kernel_rfl)
 · refine Aj' (h:=fun lv lb U HB hd K hK=>?_)
   have k5:Ac' U (lv 5) o:=hd.2.2.1 rfl
   simp only [W,Ae,Af',zfa,zfb,zfc,zfd,zfe,Job.ws,jc,jt,jf,ja,jl,zff,zfg,Ag',Act.put,lt,ly,lu]
   go_simp
   go_at_call 17
   refine (Bf' e8.out ((hs.out.keep y0_2.out).keep (bS bd.out HB)) k5 ks.out ko.out).mono ?_
   rintro eK u9 ⟨rfl,b9⟩
   exact hK.out undef 0 u9 _ b9 nofun trivial (by kernel_rfl)
 intro lv lb u HB hF hD
 have k5:=hF.2.2.1.1
 clear hF hD
 simp only [W,Ae,Af',zfa,zfb,zfc,zfd,zfe,Job.ws,jc,jt,jf,ja,jl,zff,zfg,Ag',Act.put,lt,ly,lu]
 replace k5:Ac' u (lv 5) o:=k5
 generalize lv 5=v5 at *
 clear lv lb
 refine wpAnyH_done (by kernel_rfl) ?_ _
 have FB:=hid (bS bd.out HB)
 clear hSof
 go_upto_region 7 with fail
 rename_i G hG
 replace hG:=hid hG
 go_wp2_with fail
 refine hG.out _ _ ?_
 exact Gu (hl.out.keep (bS y0_2.out FB.out)) hz.out hx0.out hn1.out (by omega) (Ab' g2.out (bS b2.out FB.out)) ((hm.out.keep y0_2.out).keep FB.out) (Ab' g1.out (bS b2.out FB.out)) (hpe.out.keep (bS y0_2.out FB.out)) sz.out sx.out sm.out sr.out (hg.out).2.2 h0.out (fun w' h=>⟨rfl,Ae' (bS y0_2.out FB.out) h⟩)
end Go.Proofs.YtflopjfnppolgaaGreatDoor.Rf
namespace Go.Proofs.YtflopjfnppolgaaGreatDoor
open Lib (hid)
open Vx
theorem IX' {q:Rat}:0≤q.num↔0≤q:=by rw [Rat.num_nonneg]
end Go.Proofs.YtflopjfnppolgaaGreatDoor
namespace Go.Proofs.YtflopjfnppolgaaGreatDoor.Rf
open Lib (hid)
open Go.RowKit
open Rx
open Vx (Aa' Ai Ai')
open List renaming flatMap_cons → zfa, flatMap_nil → zfb, append_nil → zfc, nil_append → zfd, cons_append → zfe, foldl_cons → zff, foldl_nil → zfg, getElem?_toArray → lg, getElem?_cons_zero → lz, getElem?_cons_succ → ls, setIfInBounds_toArray → lt, set_cons_zero → ly, set_cons_succ → lu
def H8 (w:World) (cx cg:Array Value) (p g:Rat) (wr:World):Prop :=
  wr.heap[w.heap.size]?=some (.cells cx 43 (0,0))∧wr.heap[w.heap.size+1]?=some (.cells cg 43 (0,0))∧wr.heap[w.heap.size+2]?=some (.cells #[.bool false,.slice none 0 0,.slice none 0 0] 43 (0,0))∧Ah wr (.agg cx) p∧Ah wr (.agg cg) g∧Below w.heap.size w wr
theorem H8.keep {w:World} {cx cg:Array Value} {p g:Rat} {u v:World} (h:H8 w cx cg p g u) (hb:Below u.heap.size u v):H8 w cx cg p g v :=
 ⟨Ab' h.1 hb,Ab' h.2.1 hb,Ab' h.2.2.1 hb,h.2.2.2.1.keep hb,h.2.2.2.2.1.keep hb,Ae' h.2.2.2.2.2 hb⟩
def A3' (w:World) (b o:Nat) (l:List Rat):Prop:=∀ (i:Nat) (q:Rat),l[i]?=some q→∃ s A1 n1 c1 A2 n2 c2,w.cell? ⟨b,o+i*3,none⟩=some (.bool s)∧w.cell? ⟨b,o+i*3+1,none⟩=some (.slice A1 n1 c1)∧w.cell? ⟨b,o+i*3+2,none⟩=some (.slice A2 n2 c2)∧Ah w (.agg #[.bool s,.slice A1 n1 c1,.slice A2 n2 c2]) q
theorem A3'.keep {w w':World} {b o:Nat} {l:List Rat} (h:A3' w b o l) (hb:Below w.heap.size w w'):A3' w' b o l:=by
 intro i q hi
 obtain ⟨s,A1,n1,c1,A2,n2,c2,h0,h1,h2,h3⟩:=h i q hi
 have hl:=bL w _ h0
 exact ⟨s,A1,n1,c1,A2,n2,c2,(hb.cell (p:=⟨b,o+i*3,none⟩) hl).trans h0,(hb.cell (p:=⟨b,o+i*3+1,none⟩) hl).trans h1,(hb.cell (p:=⟨b,o+i*3+2,none⟩) hl).trans h2,h3.keep hb⟩
theorem A3'.stay {w w':World} {b o B:Nat} {l:List Rat} (h:A3' w b o l) (hne:b≠B) (hO:∀ (n:Nat) (x:Obj),n≠B→w.heap[n]?=some x→w'.heap[n]?=some x) (hL:A9 w w'):A3' w' b o l:=by
 intro i q hi
 obtain ⟨s,A1,n1,c1,A2,n2,c2,h0,h1,h2,h3⟩:=h i q hi
 have hl:=bL w _ h0
 have he:w'.heap[b]?=w.heap[b]?:=by
   have:w.heap[b]?=some w.heap[b]:=by simp [hl]
   rw [hO b _ hne this,this]
 exact ⟨s,A1,n1,c1,A2,n2,c2,(World.cell?_of_block he).trans h0,(World.cell?_of_block he).trans h1,(World.cell?_of_block he).trans h2,hL.rat h3⟩
def Fl (w:World) (b o B:Nat) (x0:Rat) (l:List Rat) (k:Nat) (wr:World):Prop :=
  ∃ s1 A1 n1 c1 A2 n2 c2 s2 A3 n3 c3 A4 n4 c4,wr.heap[B]?=some (.cells #[.bool s1,.slice A1 n1 c1,.slice A2 n2 c2,.bool s2,.slice A3 n3 c3,.slice A4 n4 c4] 45 (0,0)) ∧
    Ay' wr (.agg #[.bool s1,.slice A1 n1 c1,.slice A2 n2 c2,.bool s2,.slice A3 n3 c3,.slice A4 n4 c4]) (leastOf x0 (l.take k)) (greatestOf x0 (l.take k)) ∧
    A3' wr b o (x0::l)∧wr.heap[w.heap.size]?=some (.cells #[.bool false,.slice none 0 0,.slice none 0 0,.bool false,.slice none 0 0,.slice none 0 0] 45 (0,0))∧Below w.heap.size w wr
theorem He' {x0 q:Rat} {l:List Rat} {k:Nat} (h:l[k]?=some q):∀ m,leastOf x0 (l.take k)=m→(if m≤q then m else q)=leastOf x0 (l.take (k+1)):=by
 intro m hm
 rw [BK h,hm]
 rcases Decidable.em (q<m) with k | k
 · rw [if_pos k,if_neg (Rat.not_le.2 k)]
 · rw [if_neg k,if_pos (Rat.not_lt.1 k)]
theorem Hf {x0 q:Rat} {l:List Rat} {k:Nat} (h:l[k]?=some q):∀ m,greatestOf x0 (l.take k)=m→(if q≤m then m else q)=greatestOf x0 (l.take (k+1)):=by
 intro m hm
 rw [Bn h,hm]
 rcases Decidable.em (m<q) with k | k
 · rw [if_pos k,if_neg (Rat.not_le.2 k)]
 · rw [if_neg k,if_pos (Rat.not_lt.1 k)]
theorem Gu' {x0:Rat} {l:List Rat} {N:Nat} (h:∀ y∈x0::l,Aa' y≤N):∀ k,Aa' (leastOf x0 (l.take k))≤N∧Aa' (greatestOf x0 (l.take k))≤N:=by
 intro k
 induction k with
 | zero=>exact ⟨h x0 (by simp),h x0 (by simp)⟩
 | succ k ih =>
   rcases hq:l[k]? with _ | q
   · have:l.take (k+1)=l.take k:=by rw [List.take_add_one,hq];simp
     rw [this];exact ih
   · rw [BK hq,Bn hq]
     have hm:=h q (List.mem_cons_of_mem _ (List.mem_of_getElem? hq))
     constructor <;> split <;> first | exact hm | exact ih.1 | exact ih.2
theorem EI' {w:World} {b o c:Nat} {x0 lo hi:Rat} {l:List Rat} (el:leastOf x0 l=lo) (eh:greatestOf x0 l=hi) (hl:A3' w b o (x0::l)) (hn:l.length≤1000) (hs:∀ y∈x0::l,Aa' y≤16777216) :
   Calls Tryz.prog 78 #[.slice (some ⟨b,o,none⟩) (l.length+1) c] w (B3' w lo hi):=by
 have HS:=hid (Gu' hs)
 have HQ:=hid (fun q (hq:q∈x0::l)=>hs q hq)
 have e0l:leastOf x0 (l.take 0)=x0:=rfl
 have e0g:greatestOf x0 (l.take 0)=x0:=rfl
 replace e0l:=hid e0l
 replace e0g:=hid e0g
 clear hs
 replace el:=hid el
 replace eh:=hid eh
 replace hl:=hid hl
 obtain ⟨w1,hw1⟩:=eX ((w.alloc (.cells #[.bool false,.slice none 0 0,.slice none 0 0,.bool false,.slice none 0 0,.slice none 0 0] 45)))
 have b1:=Am' w (.cells #[.bool false,.slice none 0 0,.slice none 0 0,.bool false,.slice none 0 0,.slice none 0 0] 45)
 have g1:=hA_ w (.cells #[.bool false,.slice none 0 0,.slice none 0 0,.bool false,.slice none 0 0,.slice none 0 0] 45)
 rw [←hw1] at b1 g1
 replace g1:=hid g1
 replace b1:=hid b1
 go_enter Tryz.func78,Tryz.ntmps78
 go_upto_region 1 with fail
 rw [←hw1]
 clear hw1
 obtain ⟨s0,A1,n1,c1,A2,n2,c2,z0,z1,z2,hx0⟩:=(hl.out.keep b1.out) 0 x0 rfl
 rw [Nat.zero_mul,Nat.add_zero] at z0 z1 z2
 have hbl:b<w.heap.size:=by obtain ⟨_,_,_,_,_,_,_,y0,_⟩:=hl.out 0 x0 rfl;exact bL w _ y0
 have i1:decide (0<l.length+1)=true:=dT_ (by omega)
 have i2:(0:Int)<((l.length+1:Nat):Int):=by omega
 have HX:=hid (C0' hx0)
 go_wp2_with fail
 refine (HX.out).mono ?_
 rintro e w2 ⟨v2,rfl,hv2,b2⟩
 obtain ⟨C1,j1,C2,j2,C3,j3,C4,j4,rfl,-,-,-,-⟩:=id hv2.opened
 replace hv2:=hid hv2
 replace b2:=hid b2
 clear HX
 clear z0 z1 z2 hx0 i1 i2
 go_upto_region 2 with fail
 obtain ⟨w3,hw3⟩:=eX (w2.alloc (.cells #[.bool (decide (x0.num<0)),.slice C1 (len x0.num.natAbs) j1,.slice C2 (len x0.den) j2,.bool (decide (x0.num<0)),.slice C3 (len x0.num.natAbs) j3,.slice C4 (len x0.den) j4] 45))
 have b3:=hid (AO' hw3)
 have L3:=hid (AR' hw3)
 rw [←hw3]
 clear hw3
 have y0_3:=hid (bS (bS b1.out b2.out) b3.out)
 have y1_3:=hid (bS b2.out b3.out)
 obtain ⟨B,hB⟩:=eY w2.heap.size
 have hGB:w.heap.size<B:=by rw [←hB];exact Al' (Ab' g1.out b2.out)
 have HE:Hid (Fl w b o B x0 l 0 w3):=hid ⟨_,_,_,_,_,_,_,_,_,_,_,_,_,_,by rw [←hB];exact L3.out,by rw [e0l.out,e0g.out];exact (hv2.out.keep b3.out),hl.out.keep y0_3.out,Ab' g1.out y1_3.out,y0_3.out⟩
 rw [hB]
 clear hB L3 g1 hl
 go_wp2_with fail
 go_loopw [4] (fun iv wr=>∃ k:Nat,k≤l.length∧iv=.int .i64 ((k+1:Nat):Int)∧Hid (Fl w b o B x0 l k wr)) (fun iv _=>l.length+1 - (intOf iv).toNat)
 case atStart=>exact ⟨0,Nat.zero_le _,rfl,HE⟩
 case round =>
   obtain ⟨k,hk,rfl,hrel⟩:=hrel
   clear HE
   obtain ⟨s1,A1,n1,c1,A2,n2,c2,s2,A3,n3,c3,A4,n4,c4,g5,hv,hRs,gR,hbw⟩:=hrel.out
   clear hrel
   obtain ⟨m,hm⟩:=eY (leastOf x0 (l.take k))
   obtain ⟨M,hM⟩:=eY (greatestOf x0 (l.take k))
   obtain ⟨tm,tM⟩:=HS.out k
   rw [hm] at hv tm
   rw [hM] at hv tM
   rcases Nat.lt_or_ge k l.length with hkn | hkn
   · obtain ⟨q,hq⟩:∃ q,l[k]?=some q:=⟨l[k],by simp [hkn]⟩
     have tq:=HQ.out q (List.mem_cons_of_mem _ (List.mem_of_getElem? hq))
     have E1:=hid (He' hq m hm)
     have E2:=hid (Hf hq M hM)
     obtain ⟨s5,A5,n5,c5,A6,n6,c6,y0,y1,y2,hxq⟩:=hRs (k+1) q (by simpa using hq)
     obtain ⟨z0,z1,z2,z3,z4,z5⟩:=Aj g5
     obtain ⟨u,hu⟩:=eY (o+(k+1)*3)
     have hu':o+(k*3+3)=u:=by omega
     rw [hu] at y0 y1 y2
     have hlo:Ah wr (.agg #[.bool s1,.slice A1 n1 c1,.slice A2 n2 c2]) m:=by
       obtain ⟨v1,v2,v3,v4,e,i1,i2,-,-⟩:=hv
       simp only [Value.agg.injEq,Array.mk.injEq,List.cons.injEq,Value.bool.injEq,and_true] at e
       obtain ⟨rfl,rfl,rfl,-,-,-⟩:=e
       exact ⟨_,_,rfl,i1,i2⟩
     have hhi:Ah wr (.agg #[.bool s2,.slice A3 n3 c3,.slice A4 n4 c4]) M:=by
       obtain ⟨v1,v2,v3,v4,e,-,-,i1,i2⟩:=hv
       simp only [Value.agg.injEq,Array.mk.injEq,List.cons.injEq,Value.bool.injEq,and_true] at e
       obtain ⟨-,-,-,rfl,rfl,rfl⟩:=e
       exact ⟨_,_,rfl,i1,i2⟩
     have hBl:B<wr.heap.size:=Al' g5
     have hbl2:b<wr.heap.size:=ltl hbl hbw.size
     have hin:decide (k+1<l.length+1)=true:=dT_ (by omega)
     have hin2:k+1<l.length+1:=by omega
     have hin3:decide (k<l.length)=true:=dT_ hkn
     have hin4:(0:Int)≤((k:Nat):Int)+1:=by omega
     obtain ⟨m2,em2⟩:=eY (leastOf x0 (l.take (k+1)))
     obtain ⟨M2,eM2⟩:=eY (greatestOf x0 (l.take (k+1)))
     rw [em2] at E1
     rw [eM2] at E2
     replace em2:=hid em2
     replace eM2:=hid eM2
     have hidx:((k+1:Nat):Int).toNat=k+1:=Int.toNat_natCast _
     clear hm hM hv
     replace hlo:=hid hlo
     replace hhi:=hid hhi
     replace hxq:=hid hxq
     replace g5:=hid g5
     replace hRs:=hid hRs
     replace gR:=hid gR
     replace hbw:=hid hbw
     replace hq:=hid hq
     replace tm:=hid tm
     replace tM:=hid tM
     replace tq:=hid tq
     go_upto_region 5 with fail
     go_wp2_with fail
     refine Dx (s:=15) (S:=(fun w'=>(w'.cell? ⟨B,0,none⟩=wr.cell? ⟨B,0,none⟩∧w'.cell? ⟨B,1,none⟩=wr.cell? ⟨B,1,none⟩∧w'.cell? ⟨B,2,none⟩=wr.cell? ⟨B,2,none⟩∧w'.cell? ⟨B,3,none⟩=wr.cell? ⟨B,3,none⟩∧w'.cell? ⟨B,4,none⟩=wr.cell? ⟨B,4,none⟩∧w'.cell? ⟨B,5,none⟩=wr.cell? ⟨B,5,none⟩∧w'.cell? ⟨b,u,none⟩=wr.cell? ⟨b,u,none⟩∧w'.cell? ⟨b,u+1,none⟩=wr.cell? ⟨b,u+1,none⟩∧w'.cell? ⟨b,u+2,none⟩=wr.cell? ⟨b,u+2,none⟩))) (by kernel_rfl) (by rfl) (by rfl) (by kernel_rfl) ?_
     simp only [Dj,lt,ly,lu]
     have hHeld:(fun w'=>(w'.cell? ⟨B,0,none⟩=wr.cell? ⟨B,0,none⟩∧w'.cell? ⟨B,1,none⟩=wr.cell? ⟨B,1,none⟩∧w'.cell? ⟨B,2,none⟩=wr.cell? ⟨B,2,none⟩∧w'.cell? ⟨B,3,none⟩=wr.cell? ⟨B,3,none⟩∧w'.cell? ⟨B,4,none⟩=wr.cell? ⟨B,4,none⟩∧w'.cell? ⟨B,5,none⟩=wr.cell? ⟨B,5,none⟩∧w'.cell? ⟨b,u,none⟩=wr.cell? ⟨b,u,none⟩∧w'.cell? ⟨b,u+1,none⟩=wr.cell? ⟨b,u+1,none⟩∧w'.cell? ⟨b,u+2,none⟩=wr.cell? ⟨b,u+2,none⟩)) wr:=⟨rfl,rfl,rfl,rfl,rfl,rfl,rfl,rfl,rfl⟩
     obtain ⟨w91,hw91⟩:=eX wr.drew
     have b91:Hid (Below wr.heap.size wr w91):=hid (by rw [hw91];exact ⟨rfl,rfl,rfl,nL _,fun _ _=>rfl⟩)
     replace hHeld:(fun w'=>(w'.cell? ⟨B,0,none⟩=wr.cell? ⟨B,0,none⟩∧w'.cell? ⟨B,1,none⟩=wr.cell? ⟨B,1,none⟩∧w'.cell? ⟨B,2,none⟩=wr.cell? ⟨B,2,none⟩∧w'.cell? ⟨B,3,none⟩=wr.cell? ⟨B,3,none⟩∧w'.cell? ⟨B,4,none⟩=wr.cell? ⟨B,4,none⟩∧w'.cell? ⟨B,5,none⟩=wr.cell? ⟨B,5,none⟩∧w'.cell? ⟨b,u,none⟩=wr.cell? ⟨b,u,none⟩∧w'.cell? ⟨b,u+1,none⟩=wr.cell? ⟨b,u+1,none⟩∧w'.cell? ⟨b,u+2,none⟩=wr.cell? ⟨b,u+2,none⟩)) w91:=by rw [hw91];exact hHeld
     rw [←hw91]
     clear hw91
     refine tk (i:=0) (h:=?_)
     try simp only [Act.put,lt,ly,lu]
     refine tk (i:=1) (h:=?_)
     try simp only [Act.put,lt,ly,lu]
     refine tk (i:=2) (h:=?_)
     try simp only [Act.put,lt,ly,lu]
     refine tk (i:=3) (h:=?_)
     try simp only [Act.put,lt,ly,lu]
     refine tk (i:=4) (h:=?_)
     try simp only [Act.put,lt,ly,lu]
     refine tk (i:=5) (h:=?_)
     try simp only [Act.put,lt,ly,lu]
     refine tk (i:=7) (h:=?_)
     try simp only [Act.put,lt,ly,lu]
     refine tk (i:=8) (h:=?_)
     try simp only [Act.put,lt,ly,lu]
     refine tk (i:=9) (h:=?_)
     try simp only [Act.put,lt,ly,lu]
     refine tk (i:=10) (h:=?_)
     try simp only [Act.put,lt,ly,lu]
     refine tk (i:=11) (h:=?_)
     try simp only [Act.put,lt,ly,lu]
     refine tk (i:=12) (h:=?_)
     try simp only [Act.put,lt,ly,lu]
     refine rdz (i:=6) (h:=fun K hK=>?_);go_simp;go_at_call 120
     refine (HZ' E1.out (hlo.out.keep b91.out) (hxq.out.keep b91.out) tm.out tq.out).mono ?_
     rintro e w92 ⟨v92,rfl,hv92,b92⟩
     obtain ⟨C31,j31,C32,j32,rfl,-,-⟩:=id hv92.opened
     replace hv92:=hid hv92
     replace b92:=hid b92
     have y90_92:=hid (bS b91.out b92.out)
     have hS:=y90_92.out
     clear hHeld
     refine hK.out _ _ ?_ (fun hHeld=>?_)
     · (try dsimp only)
       exact ⟨hS.cell (p:=⟨B,0,none⟩) hBl,hS.cell (p:=⟨B,1,none⟩) hBl,hS.cell (p:=⟨B,2,none⟩) hBl,hS.cell (p:=⟨B,3,none⟩) hBl,hS.cell (p:=⟨B,4,none⟩) hBl,hS.cell (p:=⟨B,5,none⟩) hBl,hS.cell (p:=⟨b,u,none⟩) hbl2,hS.cell (p:=⟨b,u+1,none⟩) hbl2,hS.cell (p:=⟨b,u+2,none⟩) hbl2⟩
     clear hK K hS;try simp only [Act.put,lt,ly,lu]
     refine rdz (i:=13) (h:=fun K hK=>?_);go_simp;go_at_call 121
     refine (H1' E2.out (hhi.out.keep y90_92.out) (hxq.out.keep y90_92.out) tM.out tq.out).mono ?_
     rintro e w93 ⟨v93,rfl,hv93,b93⟩
     obtain ⟨C33,j33,C34,j34,rfl,-,-⟩:=id hv93.opened
     replace hv93:=hid hv93
     replace b93:=hid b93
     have y90_93:=hid (bS y90_92.out b93.out)
     have hS:=y90_93.out
     clear hHeld
     refine hK.out _ _ ?_ (fun hHeld=>?_)
     · (try dsimp only)
       exact ⟨hS.cell (p:=⟨B,0,none⟩) hBl,hS.cell (p:=⟨B,1,none⟩) hBl,hS.cell (p:=⟨B,2,none⟩) hBl,hS.cell (p:=⟨B,3,none⟩) hBl,hS.cell (p:=⟨B,4,none⟩) hBl,hS.cell (p:=⟨B,5,none⟩) hBl,hS.cell (p:=⟨b,u,none⟩) hbl2,hS.cell (p:=⟨b,u+1,none⟩) hbl2,hS.cell (p:=⟨b,u+2,none⟩) hbl2⟩
     clear hK K hS;try simp only [Act.put,lt,ly,lu]
     refine tk (i:=14) (h:=?_)
     try simp only [Act.put,lt,ly,lu]
     refine tk (i:=15) (h:=?_)
     try simp only [Act.put,lt,ly,lu]
     refine wpAnyH_done (by kernel_rfl) ?_ _
     clear hHeld y0 y1 y2 z0 z1 z2 z3 z4 z5 hu hu' hin hin2 hin3 hin4 hidx
     have DB:=Ab' g5.out y90_93.out
     have q0:=cR _ _ 0 _ _ _ DB
     have F0:=fR w93 B 0 _ _ DB
     have q1:=cR _ _ 1 _ _ _ DB
     have F1:=fR w93 B 1 _ _ DB
     have q2:=cR _ _ 2 _ _ _ DB
     have F2:=fR w93 B 2 _ _ DB
     have q3:=cR _ _ 3 _ _ _ DB
     have F3:=fR w93 B 3 _ _ DB
     have q4:=cR _ _ 4 _ _ _ DB
     have F4:=fR w93 B 4 _ _ DB
     have q5:=cR _ _ 5 _ _ _ DB
     have F5:=fR w93 B 5 _ _ DB
     simp only [lg,lz,ls] at q0 q1 q2 q3 q4 q5
     obtain ⟨ue,hw⟩:=eX (((((((w93.setCell ⟨B,0,none⟩ (.bool (decide (m2.num<0)))).setCell ⟨B,1,none⟩ (.slice C31 (len m2.num.natAbs) j31)).setCell ⟨B,2,none⟩ (.slice C32 (len m2.den) j32)).setCell ⟨B,3,none⟩ (.bool (decide (M2.num<0)))).setCell ⟨B,4,none⟩ (.slice C33 (len M2.num.natAbs) j33)).setCell ⟨B,5,none⟩ (.slice C34 (len M2.den) j34)))
     obtain ⟨E,OT,LV,BL⟩:=AF DB hw
     have FIN:Hid (Fl w b o B x0 l (k+1) ue):=hid ⟨_,_,_,_,_,_,_,_,_,_,_,_,_,_,E,by rw [em2.out,eM2.out];exact LV.rbox (Ah.pair (hv92.out.keep b93.out) hv93.out),(hRs.out.keep y90_93.out).stay (by omega) OT LV,OT _ _ (by omega) (Ab' gR.out y90_93.out),BL _ _ (by omega) (Ae' hbw.out y90_93.out)⟩
     refine FS' (by rfl) (by rfl) ?_
     clear DB E OT LV BL
     go_simp
     rw [←hw]
     clear hw q0 q1 q2 q3 q4 q5 F0 F1 F2 F3 F4 F5
     go_wp2_with fail
     go_roundw
     case rel=>exact ⟨k+1,hkn,by go_num,FIN⟩
     case measure=>simp [intOf];omega
   · obtain rfl:k=l.length:=Nat.le_antisymm hk hkn
     rw [List.take_length] at hm hM
     have hm2:=hm.symm.trans el.out
     have hM2:=hM.symm.trans eh.out
     subst hm2 hM2
     obtain ⟨z0,z1,z2,z3,z4,z5⟩:=Aj g5
     have q0:=cR _ _ 0 _ _ _ gR
     have q1:=cR _ _ 1 _ _ _ gR
     have q2:=cR _ _ 2 _ _ _ gR
     have q3:=cR _ _ 3 _ _ _ gR
     have q4:=cR _ _ 4 _ _ _ gR
     have q5:=cR _ _ 5 _ _ _ gR
     have F0:=fR wr w.heap.size 0 _ _ gR
     have F1:=fR wr w.heap.size 1 _ _ gR
     have F2:=fR wr w.heap.size 2 _ _ gR
     have F3:=fR wr w.heap.size 3 _ _ gR
     have F4:=fR wr w.heap.size 4 _ _ gR
     have F5:=fR wr w.heap.size 5 _ _ gR
     simp only [lg,lz,ls] at q0 q1 q2 q3 q4 q5
     obtain ⟨ue,hw⟩:=eX (((((((wr.setCell ⟨w.heap.size,0,none⟩ (.bool s1)).setCell ⟨w.heap.size,1,none⟩ (.slice A1 n1 c1)).setCell ⟨w.heap.size,2,none⟩ (.slice A2 n2 c2)).setCell ⟨w.heap.size,3,none⟩ (.bool s2)).setCell ⟨w.heap.size,4,none⟩ (.slice A3 n3 c3)).setCell ⟨w.heap.size,5,none⟩ (.slice A4 n4 c4)))
     obtain ⟨E,-,LV,BL⟩:=AF gR hw
     have FE:=hid (LV.rbox hv)
     have FB:=hid (BL _ _ (nL _) hbw)
     replace E:=hid E
     replace hw:=hid hw
     clear hm hM el eh HS HQ hv hRs gR hbw g5 BL LV tm tM
     go_wp2_with fail
     rw [←hw.out]
     obtain ⟨r0,r1,r2,r3,r4,r5⟩:=Aj E.out
     refine bP (v:=.agg #[.bool s1,.slice A1 n1 c1,.slice A2 n2 c2,.bool s2,.slice A3 n3 c3,.slice A4 n4 c4]) ?_ rfl ⟨_,rfl,FE.out,FB.out⟩
     simp [results,Tryz.results78,go_sem,r0,r1,r2,r3,r4,r5]
end Go.Proofs.YtflopjfnppolgaaGreatDoor.Rf
