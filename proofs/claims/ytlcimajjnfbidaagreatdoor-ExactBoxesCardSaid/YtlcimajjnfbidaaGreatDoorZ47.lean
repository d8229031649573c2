/-
  Contracts of the functions that the law calls, for every input (Boa Bpa).
-/
import Derived.Test.YtlcimajjnfbidaaGreatDoorZ00
import Derived.Test.YtlcimajjnfbidaaGreatDoorZ45
import Derived.Test.YtlcimajjnfbidaaGreatDoorZ46
import Derived.Test.YtlcimajjnfbidaaGreatDoorZ40
set_option linter.all false
set_option maxRecDepth 100000
set_option maxHeartbeats 40000000
namespace Go.Proofs.YtlcimajjnfbidaaGreatDoor.Rf
open Lib (hid)
open Go.RowKit
open Rx
open Vx (Aa' Ao Ao')
open List renaming getElem?_toArray → lg, getElem?_cons_zero → lz, getElem?_cons_succ → ls, setIfInBounds_toArray → lt, set_cons_zero → ly, set_cons_succ → lu
theorem Fi {p q l h:Rat} (el:(if q<p then q else p)=l) (eh:(if q<p then p else q)=h):l≤h:=by
 subst el eh
 split
 · rename_i k;exact Rat.le_of_lt k
 · rename_i k;exact Rat.not_lt.1 k
theorem Ev' {p q l h:Rat} {n:Nat} (el:(if q<p then q else p)=l) (eh:(if q<p then p else q)=h) (hp:Aa' p≤n) (hq:Aa' q≤n):Aa' l≤n∧Aa' h≤n:=by
 subst el eh
 split
 · exact ⟨hq,hp⟩
 · exact ⟨hp,hq⟩
theorem Cc {x:Rat} {l:List Rat} {N:Nat} (h:∀ y∈x::l,Aa' y≤N):Aa' (leastOf x l)≤N∧Aa' (greatestOf x l)≤N :=
 ⟨Di (h x (by simp)) (fun y hy=>h y (by simp [hy])),CA' (h x (by simp)) (fun y hy=>h y (by simp [hy]))⟩
theorem Fi' {a b c d:Rat} {N:Nat} (ha:Aa' a≤N) (hb:Aa' b≤N) (hc:Aa' c≤N) (hd:Aa' d≤N):∀ y∈[a*c,a*d,b*c,b*d],Aa' y≤N+N :=
 BN (nT (Vx.Bi a c) (by omega)) (nT (Vx.Bi a d) (by omega)) (nT (Vx.Bi b c) (by omega)) (nT (Vx.Bi b d) (by omega))
theorem Fj {a b c d:Rat} {N:Nat} (ha:Aa' a≤N) (hb:Aa' b≤N) (hc:Aa' c≤N) (hd:Aa' d≤N):∀ y∈[a / c,a / d,b / c,b / d],Aa' y≤N+N :=
 BN (nT (Vx.Bs' a c) (by omega)) (nT (Vx.Bs' a d) (by omega)) (nT (Vx.Bs' b c) (by omega)) (nT (Vx.Bs' b d) (by omega))
theorem Fj' {x:Rat} {k:Nat} (h:Aa' x≤130) (hk:k≤8):Aa' (x^k)≤4100:=by
 refine nT (Cb' x k) ?_
 have:=Nat.mul_le_mul h hk
 omega
theorem H8' {w:World} {s1 s2 s3 s4:ByteArray} {n:Int} {mx:Int}  (h1:60<s1.size) (hM:w.cell? ⟨1,0,none⟩=some (.int .i64 mx)) (hT:TabAt 0 Lib.deBruijn64tab w) :
   Calls Tryz.prog 4 #[.agg #[.string s1,.string s2],.agg #[.string s3,.string s4],.int .i64 n] w (AM w true):=by
 have d1:decide (((s1.size:Nat):Int)>60)=true:=dT_ (by omega)
 have d1':(((s1.size:Nat):Int)>60):=by omega
 clear h1
 replace hM:=hid hM
 replace hT:=hid hT
 obtain ⟨w1,hw1⟩:=eX ((w.alloc (.cells #[.string s1,.string s2] 46)).alloc (.cells #[.string s3,.string s4] 46))
 obtain ⟨b1,g1,g2⟩:=Aq' hw1
 replace b1:=hid b1
 replace g1:=hid g1
 replace g2:=hid g2
 have hg:w1.heap[w.heap.size]?=some (.cells #[.string s1,.string s2] 46 (0,0)):=((Below.refl _ w1).block _ (gE.1 g1.out).1).trans g1.out
 have z_e_0:w1.cell? ⟨w.heap.size,0,none⟩=some (.string s1):=cR _ _ _ _ _ _ hg
 have z_e_1:w1.cell? ⟨w.heap.size,1,none⟩=some (.string s2):=cR _ _ _ _ _ _ hg
 clear hg
 have hg:w1.heap[w.heap.size+1]?=some (.cells #[.string s3,.string s4] 46 (0,0)):=((Below.refl _ w1).block _ (gE.1 g2.out).1).trans g2.out
 have z_f_0:w1.cell? ⟨w.heap.size+1,0,none⟩=some (.string s3):=cR _ _ _ _ _ _ hg
 have z_f_1:w1.cell? ⟨w.heap.size+1,1,none⟩=some (.string s4):=cR _ _ _ _ _ _ hg
 clear hg
 go_enter Tryz.func4,Tryz.ntmps4
 go_upto_region 1 with fail
 rw [←hw1]
 clear hw1
 have HX:=hid (BH (Az' hM.out b1.out) (tab_keep hT.out b1.out))
 go_wp2_with fail
 refine (HX.out).mono ?_
 rintro e w2 ⟨rfl,b2⟩
 replace b2:=hid b2
 clear HX
 have y0_2:=hid (bS b1.out b2.out)
 have HE:=hid y0_2.out
 go_wp2_with fail
 go_ret
 exact ⟨rfl,HE.out⟩
theorem H9 {w:World} {s1 s2 s3 s4:ByteArray} {n:Int} {mx:Int} (h1:¬ 60<s1.size) (h2:60<s2.size) (hM:w.cell? ⟨1,0,none⟩=some (.int .i64 mx)) (hT:TabAt 0 Lib.deBruijn64tab w) :
   Calls Tryz.prog 4 #[.agg #[.string s1,.string s2],.agg #[.string s3,.string s4],.int .i64 n] w (AM w true):=by
 have d1:decide (((s1.size:Nat):Int)>60)=false:=dF_ (by omega)
 have d1':¬ (((s1.size:Nat):Int)>60):=by omega
 have d2:decide (((s2.size:Nat):Int)>60)=true:=dT_ (by omega)
 have d2':(((s2.size:Nat):Int)>60):=by omega
 clear h1 h2
 replace hM:=hid hM
 replace hT:=hid hT
 obtain ⟨w1,hw1⟩:=eX ((w.alloc (.cells #[.string s1,.string s2] 46)).alloc (.cells #[.string s3,.string s4] 46))
 obtain ⟨b1,g1,g2⟩:=Aq' hw1
 replace b1:=hid b1
 replace g1:=hid g1
 replace g2:=hid g2
 have hg:w1.heap[w.heap.size]?=some (.cells #[.string s1,.string s2] 46 (0,0)):=((Below.refl _ w1).block _ (gE.1 g1.out).1).trans g1.out
 have z_e_0:w1.cell? ⟨w.heap.size,0,none⟩=some (.string s1):=cR _ _ _ _ _ _ hg
 have z_e_1:w1.cell? ⟨w.heap.size,1,none⟩=some (.string s2):=cR _ _ _ _ _ _ hg
 clear hg
 have hg:w1.heap[w.heap.size+1]?=some (.cells #[.string s3,.string s4] 46 (0,0)):=((Below.refl _ w1).block _ (gE.1 g2.out).1).trans g2.out
 have z_f_0:w1.cell? ⟨w.heap.size+1,0,none⟩=some (.string s3):=cR _ _ _ _ _ _ hg
 have z_f_1:w1.cell? ⟨w.heap.size+1,1,none⟩=some (.string s4):=cR _ _ _ _ _ _ hg
 clear hg
 go_enter Tryz.func4,Tryz.ntmps4
 go_upto_region 1 with fail
 rw [←hw1]
 clear hw1
 have HX:=hid (BH (Az' hM.out b1.out) (tab_keep hT.out b1.out))
 go_wp2_with fail
 refine (HX.out).mono ?_
 rintro e w2 ⟨rfl,b2⟩
 replace b2:=hid b2
 clear HX
 have y0_2:=hid (bS b1.out b2.out)
 have HE:=hid y0_2.out
 go_wp2_with fail
 go_ret
 exact ⟨rfl,HE.out⟩
theorem H9' {w:World} {s1 s2 s3 s4:ByteArray} {n:Int} {mx:Int} (h1:¬ 60<s1.size) (h2:¬ 60<s2.size) (h3:60<s3.size) (hM:w.cell? ⟨1,0,none⟩=some (.int .i64 mx)) (hT:TabAt 0 Lib.deBruijn64tab w) :
   Calls Tryz.prog 4 #[.agg #[.string s1,.string s2],.agg #[.string s3,.string s4],.int .i64 n] w (AM w true):=by
 have d1:decide (((s1.size:Nat):Int)>60)=false:=dF_ (by omega)
 have d1':¬ (((s1.size:Nat):Int)>60):=by omega
 have d2:decide (((s2.size:Nat):Int)>60)=false:=dF_ (by omega)
 have d2':¬ (((s2.size:Nat):Int)>60):=by omega
 have d3:decide (((s3.size:Nat):Int)>60)=true:=dT_ (by omega)
 have d3':(((s3.size:Nat):Int)>60):=by omega
 clear h1 h2 h3
 replace hM:=hid hM
 replace hT:=hid hT
 obtain ⟨w1,hw1⟩:=eX ((w.alloc (.cells #[.string s1,.string s2] 46)).alloc (.cells #[.string s3,.string s4] 46))
 obtain ⟨b1,g1,g2⟩:=Aq' hw1
 replace b1:=hid b1
 replace g1:=hid g1
 replace g2:=hid g2
 have hg:w1.heap[w.heap.size]?=some (.cells #[.string s1,.string s2] 46 (0,0)):=((Below.refl _ w1).block _ (gE.1 g1.out).1).trans g1.out
 have z_e_0:w1.cell? ⟨w.heap.size,0,none⟩=some (.string s1):=cR _ _ _ _ _ _ hg
 have z_e_1:w1.cell? ⟨w.heap.size,1,none⟩=some (.string s2):=cR _ _ _ _ _ _ hg
 clear hg
 have hg:w1.heap[w.heap.size+1]?=some (.cells #[.string s3,.string s4] 46 (0,0)):=((Below.refl _ w1).block _ (gE.1 g2.out).1).trans g2.out
 have z_f_0:w1.cell? ⟨w.heap.size+1,0,none⟩=some (.string s3):=cR _ _ _ _ _ _ hg
 have z_f_1:w1.cell? ⟨w.heap.size+1,1,none⟩=some (.string s4):=cR _ _ _ _ _ _ hg
 clear hg
 go_enter Tryz.func4,Tryz.ntmps4
 go_upto_region 1 with fail
 rw [←hw1]
 clear hw1
 have HX:=hid (BH (Az' hM.out b1.out) (tab_keep hT.out b1.out))
 go_wp2_with fail
 refine (HX.out).mono ?_
 rintro e w2 ⟨rfl,b2⟩
 replace b2:=hid b2
 clear HX
 have y0_2:=hid (bS b1.out b2.out)
 have HE:=hid y0_2.out
 go_wp2_with fail
 go_ret
 exact ⟨rfl,HE.out⟩
theorem Ia {w:World} {s1 s2 s3 s4:ByteArray} {n:Int} {mx:Int} (h1:¬ 60<s1.size) (h2:¬ 60<s2.size) (h3:¬ 60<s3.size) (h4:60<s4.size) (hM:w.cell? ⟨1,0,none⟩=some (.int .i64 mx)) (hT:TabAt 0 Lib.deBruijn64tab w) :
   Calls Tryz.prog 4 #[.agg #[.string s1,.string s2],.agg #[.string s3,.string s4],.int .i64 n] w (AM w true):=by
 have d1:decide (((s1.size:Nat):Int)>60)=false:=dF_ (by omega)
 have d1':¬ (((s1.size:Nat):Int)>60):=by omega
 have d2:decide (((s2.size:Nat):Int)>60)=false:=dF_ (by omega)
 have d2':¬ (((s2.size:Nat):Int)>60):=by omega
 have d3:decide (((s3.size:Nat):Int)>60)=false:=dF_ (by omega)
 have d3':¬ (((s3.size:Nat):Int)>60):=by omega
 have d4:decide (((s4.size:Nat):Int)>60)=true:=dT_ (by omega)
 have d4':(((s4.size:Nat):Int)>60):=by omega
 clear h1 h2 h3 h4
 replace hM:=hid hM
 replace hT:=hid hT
 obtain ⟨w1,hw1⟩:=eX ((w.alloc (.cells #[.string s1,.string s2] 46)).alloc (.cells #[.string s3,.string s4] 46))
 obtain ⟨b1,g1,g2⟩:=Aq' hw1
 replace b1:=hid b1
 replace g1:=hid g1
 replace g2:=hid g2
 have hg:w1.heap[w.heap.size]?=some (.cells #[.string s1,.string s2] 46 (0,0)):=((Below.refl _ w1).block _ (gE.1 g1.out).1).trans g1.out
 have z_e_0:w1.cell? ⟨w.heap.size,0,none⟩=some (.string s1):=cR _ _ _ _ _ _ hg
 have z_e_1:w1.cell? ⟨w.heap.size,1,none⟩=some (.string s2):=cR _ _ _ _ _ _ hg
 clear hg
 have hg:w1.heap[w.heap.size+1]?=some (.cells #[.string s3,.string s4] 46 (0,0)):=((Below.refl _ w1).block _ (gE.1 g2.out).1).trans g2.out
 have z_f_0:w1.cell? ⟨w.heap.size+1,0,none⟩=some (.string s3):=cR _ _ _ _ _ _ hg
 have z_f_1:w1.cell? ⟨w.heap.size+1,1,none⟩=some (.string s4):=cR _ _ _ _ _ _ hg
 clear hg
 go_enter Tryz.func4,Tryz.ntmps4
 go_upto_region 1 with fail
 rw [←hw1]
 clear hw1
 have HX:=hid (BH (Az' hM.out b1.out) (tab_keep hT.out b1.out))
 go_wp2_with fail
 refine (HX.out).mono ?_
 rintro e w2 ⟨rfl,b2⟩
 replace b2:=hid b2
 clear HX
 have y0_2:=hid (bS b1.out b2.out)
 have HE:=hid y0_2.out
 go_wp2_with fail
 go_ret
 exact ⟨rfl,HE.out⟩
theorem Ia' {w:World} {s1 s2 s3 s4:ByteArray} {n:Int} {mx:Int} (h1:¬ 60<s1.size) (h2:¬ 60<s2.size) (h3:¬ 60<s3.size) (h4:¬ 60<s4.size) (h5:8<n) (h6:n≤64) (hM:w.cell? ⟨1,0,none⟩=some (.int .i64 mx)) (hT:TabAt 0 Lib.deBruijn64tab w) :
   Calls Tryz.prog 4 #[.agg #[.string s1,.string s2],.agg #[.string s3,.string s4],.int .i64 n] w (AM w true):=by
 have d1:decide (((s1.size:Nat):Int)>60)=false:=dF_ (by omega)
 have d1':¬ (((s1.size:Nat):Int)>60):=by omega
 have d2:decide (((s2.size:Nat):Int)>60)=false:=dF_ (by omega)
 have d2':¬ (((s2.size:Nat):Int)>60):=by omega
 have d3:decide (((s3.size:Nat):Int)>60)=false:=dF_ (by omega)
 have d3':¬ (((s3.size:Nat):Int)>60):=by omega
 have d4:decide (((s4.size:Nat):Int)>60)=false:=dF_ (by omega)
 have d4':¬ (((s4.size:Nat):Int)>60):=by omega
 have d5:decide (n>8)=true:=dT_ (by omega)
 have d6:decide (n≤64)=true:=dT_ (by omega)
 clear h1 h2 h3 h4 h5 h6
 replace hM:=hid hM
 replace hT:=hid hT
 obtain ⟨w1,hw1⟩:=eX ((w.alloc (.cells #[.string s1,.string s2] 46)).alloc (.cells #[.string s3,.string s4] 46))
 obtain ⟨b1,g1,g2⟩:=Aq' hw1
 replace b1:=hid b1
 replace g1:=hid g1
 replace g2:=hid g2
 have hg:w1.heap[w.heap.size]?=some (.cells #[.string s1,.string s2] 46 (0,0)):=((Below.refl _ w1).block _ (gE.1 g1.out).1).trans g1.out
 have z_e_0:w1.cell? ⟨w.heap.size,0,none⟩=some (.string s1):=cR _ _ _ _ _ _ hg
 have z_e_1:w1.cell? ⟨w.heap.size,1,none⟩=some (.string s2):=cR _ _ _ _ _ _ hg
 clear hg
 have hg:w1.heap[w.heap.size+1]?=some (.cells #[.string s3,.string s4] 46 (0,0)):=((Below.refl _ w1).block _ (gE.1 g2.out).1).trans g2.out
 have z_f_0:w1.cell? ⟨w.heap.size+1,0,none⟩=some (.string s3):=cR _ _ _ _ _ _ hg
 have z_f_1:w1.cell? ⟨w.heap.size+1,1,none⟩=some (.string s4):=cR _ _ _ _ _ _ hg
 clear hg
 go_enter Tryz.func4,Tryz.ntmps4
 go_upto_region 1 with fail
 rw [←hw1]
 clear hw1
 have HX:=hid (BH (Az' hM.out b1.out) (tab_keep hT.out b1.out))
 go_wp2_with fail
 refine (HX.out).mono ?_
 rintro e w2 ⟨rfl,b2⟩
 replace b2:=hid b2
 clear HX
 have y0_2:=hid (bS b1.out b2.out)
 have HE:=hid y0_2.out
 go_wp2_with fail
 go_ret
 exact ⟨rfl,HE.out⟩
theorem Ec' {w w1:World} {mx:Int} {a b c d:Rat}  {C1 C2 C3 C4:Option Addr} {j1 j2 j3 j4 blk_s:Nat} {C5 C6 C7 C8:Option Addr} {j5 j6 j7 j8 blk_t:Nat} {C9 C10 C11 C12:Option Addr} {j9 j10 j11 j12 blk_x:Nat} {C13 C14 C15 C16:Option Addr} {j13 j14 j15 j16 blk_y:Nat} {y0 y1 y2 y3 y4 y5 y6 y11 y12 y13 y14 y15 y16 y17 y18 y19 y20 y21 y22 y23 y24 y25 y26 y27 y28 y29 y30 y31 y32 y33 y34 y35 y36 y37 y38 y39 y40 y41 y42 y43 y44 y45 y46 y47 y48 y49 y50 y51 y52 y53 y54 y55 y56 y57 y58 y59 y60 y61 y62 y63 y64 y65 y66 y67 y68 y69 y70 y71 y72 y73 y74 y75 y76 y77 y78 y79 y80 y81 y82 y83 y84 y85 y86 y87 y88 y89 y90 y91 y92 y93 y94 y95 y96 y97 y98 y99 y100 y101 y102 y103 y104 y105 y106 y107 y108 y109 y110 y111 y112 y113 y114 y115 y116 y117 y118 y119 y120 y121 y122 y123 y124 y125 y126 y127 y128 y129 y130 y131 y132 y133 y134 y135 y136 y137 y138 y139 y140 y141 y142 y143 y144 y145 y146 y147 y148 y149 y150 y151 y152 y153 y154 y155 y156 y157 y158 y159 y160 y161 y162 y163 y164 y165 y166 y167 y168 y169 y170 y171 y172 y173 y174 y175 y176 y177 y178 y179 y180 y181 y182 y183 y184 y185 y186 y187 y188 y189 y190 y191 y192:Value}
   (k_a:Aa' a≤130) (k_b:Aa' b≤130) (k_c:Aa' c≤130) (k_d:Aa' d≤130) (hab:a≤b) (hcd:c≤d) (h0:c≤0∧0≤d)
   (hv_s:Am' w1 (.agg #[.bool (decide (a.num<0)),.slice C1 (Vx.len a.num.natAbs) j1,.slice C2 (Vx.len (below a.den)) j2,.bool (decide (b.num<0)),.slice C3 (Vx.len b.num.natAbs) j3,.slice C4 (Vx.len (below b.den)) j4]) a b) (L_s:w1.heap[blk_s]?=some (.cells #[.bool (decide (a.num<0)),.slice C1 (Vx.len a.num.natAbs) j1,.slice C2 (Vx.len (below a.den)) j2,.bool (decide (b.num<0)),.slice C3 (Vx.len b.num.natAbs) j3,.slice C4 (Vx.len (below b.den)) j4] 48 (0,0))) (hv_t:Aq w1 (.agg #[.bool (decide (a.num<0)),.slice C5 (len a.num.natAbs) j5,.slice C6 (len a.den) j6,.bool (decide (b.num<0)),.slice C7 (len b.num.natAbs) j7,.slice C8 (len b.den) j8]) a b) (L_t:w1.heap[blk_t]?=some (.cells #[.bool (decide (a.num<0)),.slice C5 (len a.num.natAbs) j5,.slice C6 (len a.den) j6,.bool (decide (b.num<0)),.slice C7 (len b.num.natAbs) j7,.slice C8 (len b.den) j8] 50 (0,0))) (hv_x:Am' w1 (.agg #[.bool (decide (c.num<0)),.slice C9 (Vx.len c.num.natAbs) j9,.slice C10 (Vx.len (below c.den)) j10,.bool (decide (d.num<0)),.slice C11 (Vx.len d.num.natAbs) j11,.slice C12 (Vx.len (below d.den)) j12]) c d) (L_x:w1.heap[blk_x]?=some (.cells #[.bool (decide (c.num<0)),.slice C9 (Vx.len c.num.natAbs) j9,.slice C10 (Vx.len (below c.den)) j10,.bool (decide (d.num<0)),.slice C11 (Vx.len d.num.natAbs) j11,.slice C12 (Vx.len (below d.den)) j12] 48 (0,0))) (hv_y:Aq w1 (.agg #[.bool (decide (c.num<0)),.slice C13 (len c.num.natAbs) j13,.slice C14 (len c.den) j14,.bool (decide (d.num<0)),.slice C15 (len d.num.natAbs) j15,.slice C16 (len d.den) j16]) c d) (L_y:w1.heap[blk_y]?=some (.cells #[.bool (decide (c.num<0)),.slice C13 (len c.num.natAbs) j13,.slice C14 (len c.den) j14,.bool (decide (d.num<0)),.slice C15 (len d.num.natAbs) j15,.slice C16 (len d.den) j16] 50 (0,0))) (hM:w1.cell? ⟨1,0,none⟩=some (.int .i64 mx)) (hT:TabAt 0 Lib.deBruijn64tab w1) (hB:Below w.heap.size w w1) :
   (codeAt 10 Tryz.f4).wp Tryz.prog (bodyPost Tryz.prog Tryz.f4 (AM w true)) { tmps:=#[y0,y1,y2,y3,y4,y5,y6,.pointer (some ⟨blk_s,0,none⟩),.pointer (some ⟨blk_t,0,none⟩),.pointer (some ⟨blk_x,0,none⟩),.pointer (some ⟨blk_y,0,none⟩),y11,y12,y13,y14,y15,y16,y17,y18,y19,y20,y21,y22,y23,y24,y25,y26,y27,y28,y29,y30,y31,y32,y33,y34,y35,y36,y37,y38,y39,y40,y41,y42,y43,y44,y45,y46,y47,y48,y49,y50,y51,y52,y53,y54,y55,y56,y57,y58,y59,y60,y61,y62,y63,y64,y65,y66,y67,y68,y69,y70,y71,y72,y73,y74,y75,y76,y77,y78,y79,y80,y81,y82,y83,y84,y85,y86,y87,y88,y89,y90,y91,y92,y93,y94,y95,y96,y97,y98,y99,y100,y101,y102,y103,y104,y105,y106,y107,y108,y109,y110,y111,y112,y113,y114,y115,y116,y117,y118,y119,y120,y121,y122,y123,y124,y125,y126,y127,y128,y129,y130,y131,y132,y133,y134,y135,y136,y137,y138,y139,y140,y141,y142,y143,y144,y145,y146,y147,y148,y149,y150,y151,y152,y153,y154,y155,y156,y157,y158,y159,y160,y161,y162,y163,y164,y165,y166,y167,y168,y169,y170,y171,y172,y173,y174,y175,y176,y177,y178,y179,y180,y181,y182,y183,y184,y185,y186,y187,y188,y189,y190,y191,y192],defers:=[] } w1:=by
 obtain ⟨z0,e_z0⟩:=eY (((0:Int):Rat):Rat)
 have e00:z0=0:=by rw [←e_z0];rfl
 have m_z0:Aa' z0≤16777216:=by rw [e00];have:=Br;omega
 have z_a:Aa' a≤4100:=by omega
 have m_a:Aa' a≤16777216:=by omega
 have n_a:Aa' a≤4000000:=by omega
 have z_b:Aa' b≤4100:=by omega
 have m_b:Aa' b≤16777216:=by omega
 have n_b:Aa' b≤4000000:=by omega
 have z_c:Aa' c≤4100:=by omega
 have m_c:Aa' c≤16777216:=by omega
 have n_c:Aa' c≤4000000:=by omega
 have z_d:Aa' d≤4100:=by omega
 have m_d:Aa' d≤16777216:=by omega
 have n_d:Aa' d≤4000000:=by omega
 obtain ⟨o,e_o⟩:=eY (0:Rat)
 have hz:decide (c≤z0∧z0≤d)=true:=dT_ (by rw [e00];exact h0)
 replace e_z0:=hid e_z0
 replace m_z0:=hid m_z0
 replace h0:=hid h0
 replace hz:=hid hz
 replace hab:=hid hab
 replace hcd:=hid hcd
 replace z_a:=hid z_a
 replace z_b:=hid z_b
 replace z_c:=hid z_c
 replace z_d:=hid z_d
 replace m_a:=hid m_a
 replace m_b:=hid m_b
 replace m_c:=hid m_c
 replace m_d:=hid m_d
 replace n_a:=hid n_a
 replace n_b:=hid n_b
 replace n_c:=hid n_c
 replace n_d:=hid n_d
 replace e_o:=hid e_o
 clear e00 k_a k_b k_c k_d
 replace hv_s:=hid hv_s
 replace hv_t:=hid hv_t
 replace hv_x:=hid hv_x
 replace hv_y:=hid hv_y
 replace L_s:=hid L_s
 replace L_t:=hid L_t
 replace L_x:=hid L_x
 replace L_y:=hid L_y
 replace hM:=hid hM
 replace hT:=hid hT
 replace hB:=hid hB
 show Code.wp _ (Code.seq _ _) _ _ _
 go_upto_region 17 with fail
 obtain ⟨z_s_0,z_s_1,z_s_2,z_s_3,z_s_4,z_s_5⟩:=Ad' L_s.out
 obtain ⟨z_x_0,z_x_1,z_x_2,z_x_3,z_x_4,z_x_5⟩:=Ad' L_x.out
 have HX:=hid (Hf' e_o.out h0.out hv_s.out hv_x.out z_a.out z_b.out z_c.out z_d.out)
 go_wp2_with fail
 refine (HX.out).mono ?_
 rintro e w2 ⟨v2,rfl,hv2,b2⟩
 obtain ⟨C17,j17,C18,j18,C19,j19,C20,j20,rfl,-,-,-,-⟩:=id hv2.opened
 replace hv2:=hid hv2
 replace b2:=hid b2
 clear HX
 clear z_s_0 z_s_1 z_s_2 z_s_3 z_s_4 z_s_5 z_x_0 z_x_1 z_x_2 z_x_3 z_x_4 z_x_5
 go_upto_region 18 with fail
 obtain ⟨w3,hw3⟩:=eX (w2.alloc (.cells #[.bool (decide (o.num<0)),.slice C17 (Vx.len o.num.natAbs) j17,.slice C18 (Vx.len (below o.den)) j18,.bool (decide (o.num<0)),.slice C19 (Vx.len o.num.natAbs) j19,.slice C20 (Vx.len (below o.den)) j20] 48))
 have b3:=hid (BE hw3)
 have L3:=hid (Bh hw3)
 rw [←hw3]
 clear hw3
 go_wp2_with fail
 obtain ⟨NN18,hNN⟩:=eY (w3.heap.size:Nat)
 have HSZ18:Hid (w3.heap.size=NN18):=hNN
 have y1_3:=hid (bS b2.out b3.out)
 obtain ⟨z_y_0,z_y_1,z_y_2,z_y_3,z_y_4,z_y_5⟩:=Ad' (Ac' L_y.out y1_3.out)
 have hlt18_y:blk_y<NN18:=Nat.lt_of_lt_of_eq (bL _ _ z_y_0) hNN
 have H0:=Ae'.start w3 NN18
 have H0':=H0
 unfold Ae' at H0'
 refine wp_region_held_drew (S:=(fun w'=>(∀ b o,b<NN18→w'.cell? ⟨b,o,none⟩=w3.cell? ⟨b,o,none⟩)∧Below (NN18) w3 w'∧Ag' w3 w')) (by kernel_rfl) ?_ (fun hHeld=>?_)
 · (try dsimp only)
   exact H0'
 obtain ⟨w4,hw4⟩:=eX w3.drew
 have b4:Hid (Below w3.heap.size w3 w4):=by rw [hw4];exact ⟨rfl,rfl,rfl,nL _,fun _ _=>rfl⟩
 rw [←hw4] at hHeld H0 ⊢
 clear hw4 H0' hNN
 as_aux_lemma =>
  refine tk (i:=0) (h:=?_)
  try simp only [Act.put,lt,ly,lu]
  refine rd (i:=1) (h:=fun K hK=>?_);go_simp;go_at_call 11
  refine (BB' (w:=w4) e_z0.out (by omega) (by omega)).mono ?_
  rintro e w5 ⟨v5,rfl,hv5,b5⟩
  obtain ⟨C21,j21,C22,j22,rfl,-,-⟩:=id hv5.opened
  replace hv5:=hid hv5
  replace b5:=hid b5
  have hk5:=AN' H0 HSZ18 b5.out;clear hHeld H0
  refine hK.out _ _ (by (try dsimp only);with_reducible exact hun hk5) (fun hHeld=>?_)
  clear hK K;try simp only [Act.put,lt,ly,lu]
  have y1_5:=hid (bS (bS y1_3.out b4.out) b5.out)
  refine rd (i:=2) (h:=fun K hK=>?_);go_simp;go_at_call 35
  refine (Cb hz.out (hv_y.out.keep y1_5.out) hv5.out m_c.out m_d.out m_z0.out).mono ?_
  rintro e w6 ⟨rfl,b6⟩
  replace b6:=hid b6
  have hk6:=AN' hk5 HSZ18 b6.out;clear hHeld hk5
  refine hK.out _ _ (by (try dsimp only);with_reducible exact hun hk6) (fun hHeld=>?_)
  clear hK K;try simp only [Act.put,lt,ly,lu]
  refine wpAnyH_done (by kernel_rfl) ?_ _
  clear hHeld
  clear z_y_0 z_y_1 z_y_2 z_y_3 z_y_4 z_y_5 hlt18_y
  clear hk6 HSZ18
  have y1_6:=hid (bS y1_5.out b6.out)
  have hRt6:=hid (hv_t.out.keep y1_6.out)
  have hRy6:=hid (hv_y.out.keep y1_6.out)
  have y2_6:=hid (bS (bS (bS b3.out b4.out) b5.out) b6.out)
  have hRvb6:=hid (hv2.out.keep y2_6.out)
  have LRt6:=hid (Ac' L_t.out y1_6.out)
  have LRy6:=hid (Ac' L_y.out y1_6.out)
  have y3_6:=hid (bS (bS b4.out b5.out) b6.out)
  have LRvb6:=hid (Ac' L3.out y3_6.out)
  have HMB6:=hid (Az' hM.out y1_6.out)
  have HTB6:=hid (tab_keep hT.out y1_6.out)
  have HBB6:=hid (bS hB.out y1_6.out)
  clear hv_t hv_y hv2 L_t L_y L3 hM hT hB b2 b3 b4 b5 b6
  go_upto_region 19 with fail
  obtain ⟨z_vb_0,z_vb_1,z_vb_2,z_vb_3,z_vb_4,z_vb_5⟩:=Ad' LRvb6.out
  have HX:=hid (DI e_o.out.symm e_o.out.symm hRvb6.out)
  go_wp2_with fail
  refine (HX.out).mono ?_
  rintro e w7 ⟨rfl,b7⟩
  replace b7:=hid b7
  clear HX
  clear z_vb_0 z_vb_1 z_vb_2 z_vb_3 z_vb_4 z_vb_5
  have HX:=hid (BH (Az' HMB6.out b7.out) (tab_keep HTB6.out b7.out))
  go_wp2_with fail
  refine (HX.out).mono ?_
  rintro e w8 ⟨rfl,b8⟩
  replace b8:=hid b8
  clear HX
  have y6_8:=hid (bS b7.out b8.out)
  have HE:=hid (bS HBB6.out y6_8.out)
  go_wp2_with fail
  go_ret
  exact ⟨rfl,HE.out⟩
theorem Fk {w w1:World} {mx:Int} {a b c d:Rat}  {C1 C2 C3 C4:Option Addr} {j1 j2 j3 j4 blk_s:Nat} {C5 C6 C7 C8:Option Addr} {j5 j6 j7 j8 blk_t:Nat} {C9 C10 C11 C12:Option Addr} {j9 j10 j11 j12 blk_x:Nat} {C13 C14 C15 C16:Option Addr} {j13 j14 j15 j16 blk_y:Nat} {y0 y1 y2 y3 y4 y5 y6 y11 y12 y13 y14 y15 y16 y17 y18 y19 y20 y21 y22 y23 y24 y25 y26 y27 y28 y29 y30 y31 y32 y33 y34 y35 y36 y37 y38 y39 y40 y41 y42 y43 y44 y45 y46 y47 y48 y49 y50 y51 y52 y53 y54 y55 y56 y57 y58 y59 y60 y61 y62 y63 y64 y65 y66 y67 y68 y69 y70 y71 y72 y73 y74 y75 y76 y77 y78 y79 y80 y81 y82 y83 y84 y85 y86 y87 y88 y89 y90 y91 y92 y93 y94 y95 y96 y97 y98 y99 y100 y101 y102 y103 y104 y105 y106 y107 y108 y109 y110 y111 y112 y113 y114 y115 y116 y117 y118 y119 y120 y121 y122 y123 y124 y125 y126 y127 y128 y129 y130 y131 y132 y133 y134 y135 y136 y137 y138 y139 y140 y141 y142 y143 y144 y145 y146 y147 y148 y149 y150 y151 y152 y153 y154 y155 y156 y157 y158 y159 y160 y161 y162 y163 y164 y165 y166 y167 y168 y169 y170 y171 y172 y173 y174 y175 y176 y177 y178 y179 y180 y181 y182 y183 y184 y185 y186 y187 y188 y189 y190 y191 y192:Value}
   (k_a:Aa' a≤130) (k_b:Aa' b≤130) (k_c:Aa' c≤130) (k_d:Aa' d≤130) (hab:a≤b) (hcd:c≤d) (h0:¬ (c≤0∧0≤d))
   (hv_s:Am' w1 (.agg #[.bool (decide (a.num<0)),.slice C1 (Vx.len a.num.natAbs) j1,.slice C2 (Vx.len (below a.den)) j2,.bool (decide (b.num<0)),.slice C3 (Vx.len b.num.natAbs) j3,.slice C4 (Vx.len (below b.den)) j4]) a b) (L_s:w1.heap[blk_s]?=some (.cells #[.bool (decide (a.num<0)),.slice C1 (Vx.len a.num.natAbs) j1,.slice C2 (Vx.len (below a.den)) j2,.bool (decide (b.num<0)),.slice C3 (Vx.len b.num.natAbs) j3,.slice C4 (Vx.len (below b.den)) j4] 48 (0,0))) (hv_t:Aq w1 (.agg #[.bool (decide (a.num<0)),.slice C5 (len a.num.natAbs) j5,.slice C6 (len a.den) j6,.bool (decide (b.num<0)),.slice C7 (len b.num.natAbs) j7,.slice C8 (len b.den) j8]) a b) (L_t:w1.heap[blk_t]?=some (.cells #[.bool (decide (a.num<0)),.slice C5 (len a.num.natAbs) j5,.slice C6 (len a.den) j6,.bool (decide (b.num<0)),.slice C7 (len b.num.natAbs) j7,.slice C8 (len b.den) j8] 50 (0,0))) (hv_x:Am' w1 (.agg #[.bool (decide (c.num<0)),.slice C9 (Vx.len c.num.natAbs) j9,.slice C10 (Vx.len (below c.den)) j10,.bool (decide (d.num<0)),.slice C11 (Vx.len d.num.natAbs) j11,.slice C12 (Vx.len (below d.den)) j12]) c d) (L_x:w1.heap[blk_x]?=some (.cells #[.bool (decide (c.num<0)),.slice C9 (Vx.len c.num.natAbs) j9,.slice C10 (Vx.len (below c.den)) j10,.bool (decide (d.num<0)),.slice C11 (Vx.len d.num.natAbs) j11,.slice C12 (Vx.len (below d.den)) j12] 48 (0,0))) (hv_y:Aq w1 (.agg #[.bool (decide (c.num<0)),.slice C13 (len c.num.natAbs) j13,.slice C14 (len c.den) j14,.bool (decide (d.num<0)),.slice C15 (len d.num.natAbs) j15,.slice C16 (len d.den) j16]) c d) (L_y:w1.heap[blk_y]?=some (.cells #[.bool (decide (c.num<0)),.slice C13 (len c.num.natAbs) j13,.slice C14 (len c.den) j14,.bool (decide (d.num<0)),.slice C15 (len d.num.natAbs) j15,.slice C16 (len d.den) j16] 50 (0,0))) (hM:w1.cell? ⟨1,0,none⟩=some (.int .i64 mx)) (hT:TabAt 0 Lib.deBruijn64tab w1) (hB:Below w.heap.size w w1) :
   (codeAt 10 Tryz.f4).wp Tryz.prog (bodyPost Tryz.prog Tryz.f4 (AM w true)) { tmps:=#[y0,y1,y2,y3,y4,y5,y6,.pointer (some ⟨blk_s,0,none⟩),.pointer (some ⟨blk_t,0,none⟩),.pointer (some ⟨blk_x,0,none⟩),.pointer (some ⟨blk_y,0,none⟩),y11,y12,y13,y14,y15,y16,y17,y18,y19,y20,y21,y22,y23,y24,y25,y26,y27,y28,y29,y30,y31,y32,y33,y34,y35,y36,y37,y38,y39,y40,y41,y42,y43,y44,y45,y46,y47,y48,y49,y50,y51,y52,y53,y54,y55,y56,y57,y58,y59,y60,y61,y62,y63,y64,y65,y66,y67,y68,y69,y70,y71,y72,y73,y74,y75,y76,y77,y78,y79,y80,y81,y82,y83,y84,y85,y86,y87,y88,y89,y90,y91,y92,y93,y94,y95,y96,y97,y98,y99,y100,y101,y102,y103,y104,y105,y106,y107,y108,y109,y110,y111,y112,y113,y114,y115,y116,y117,y118,y119,y120,y121,y122,y123,y124,y125,y126,y127,y128,y129,y130,y131,y132,y133,y134,y135,y136,y137,y138,y139,y140,y141,y142,y143,y144,y145,y146,y147,y148,y149,y150,y151,y152,y153,y154,y155,y156,y157,y158,y159,y160,y161,y162,y163,y164,y165,y166,y167,y168,y169,y170,y171,y172,y173,y174,y175,y176,y177,y178,y179,y180,y181,y182,y183,y184,y185,y186,y187,y188,y189,y190,y191,y192],defers:=[] } w1:=by
 obtain ⟨z0,e_z0⟩:=eY (((0:Int):Rat):Rat)
 have e00:z0=0:=by rw [←e_z0];rfl
 have m_z0:Aa' z0≤16777216:=by rw [e00];have:=Br;omega
 have z_a:Aa' a≤4100:=by omega
 have m_a:Aa' a≤16777216:=by omega
 have n_a:Aa' a≤4000000:=by omega
 have z_b:Aa' b≤4100:=by omega
 have m_b:Aa' b≤16777216:=by omega
 have n_b:Aa' b≤4000000:=by omega
 have z_c:Aa' c≤4100:=by omega
 have m_c:Aa' c≤16777216:=by omega
 have n_c:Aa' c≤4000000:=by omega
 have z_d:Aa' d≤4100:=by omega
 have m_d:Aa' d≤16777216:=by omega
 have n_d:Aa' d≤4000000:=by omega
 have hz:decide (c≤z0∧z0≤d)=false:=dF_ (by rw [e00];exact h0)
 have hc0:c≠0:=fun e=>h0 ⟨by rw [e];exact Rat.le_refl,by rw [e] at hcd;exact hcd⟩
 have hd0:d≠0:=fun e=>h0 ⟨by rw [e] at hcd;exact hcd,by rw [e];exact Rat.le_refl⟩
 obtain ⟨di1,e_di1⟩:=eY (leastOf (a / c) [a / d,b / c,b / d]:Rat)
 obtain ⟨di2,e_di2⟩:=eY (greatestOf (a / c) [a / d,b / c,b / d]:Rat)
 have z_di1:Aa' di1≤4100:=by
   rw [←e_di1]
   exact nT (Cc (Fj k_a k_b k_c k_d)).1 (by omega)
 have z_di2:Aa' di2≤4100:=by
   rw [←e_di2]
   exact nT (Cc (Fj k_a k_b k_c k_d)).2 (by omega)
 replace e_z0:=hid e_z0
 replace m_z0:=hid m_z0
 replace h0:=hid h0
 replace hz:=hid hz
 replace hab:=hid hab
 replace hcd:=hid hcd
 replace z_a:=hid z_a
 replace z_b:=hid z_b
 replace z_c:=hid z_c
 replace z_d:=hid z_d
 replace m_a:=hid m_a
 replace m_b:=hid m_b
 replace m_c:=hid m_c
 replace m_d:=hid m_d
 replace n_a:=hid n_a
 replace n_b:=hid n_b
 replace n_c:=hid n_c
 replace n_d:=hid n_d
 replace hc0:=hid hc0
 replace hd0:=hid hd0
 replace e_di1:=hid e_di1
 replace e_di2:=hid e_di2
 replace z_di1:=hid z_di1
 replace z_di2:=hid z_di2
 clear e00 k_a k_b k_c k_d
 replace hv_s:=hid hv_s
 replace hv_t:=hid hv_t
 replace hv_x:=hid hv_x
 replace hv_y:=hid hv_y
 replace L_s:=hid L_s
 replace L_t:=hid L_t
 replace L_x:=hid L_x
 replace L_y:=hid L_y
 replace hM:=hid hM
 replace hT:=hid hT
 replace hB:=hid hB
 show Code.wp _ (Code.seq _ _) _ _ _
 go_upto_region 17 with fail
 obtain ⟨z_s_0,z_s_1,z_s_2,z_s_3,z_s_4,z_s_5⟩:=Ad' L_s.out
 obtain ⟨z_x_0,z_x_1,z_x_2,z_x_3,z_x_4,z_x_5⟩:=Ad' L_x.out
 have HX:=hid (Gs' e_di1.out e_di2.out h0.out hv_s.out hv_x.out z_a.out z_b.out z_c.out z_d.out)
 go_wp2_with fail
 refine (HX.out).mono ?_
 rintro e w2 ⟨v2,rfl,hv2,b2⟩
 obtain ⟨C17,j17,C18,j18,C19,j19,C20,j20,rfl,-,-,-,-⟩:=id hv2.opened
 replace hv2:=hid hv2
 replace b2:=hid b2
 clear HX
 clear z_s_0 z_s_1 z_s_2 z_s_3 z_s_4 z_s_5 z_x_0 z_x_1 z_x_2 z_x_3 z_x_4 z_x_5
 go_upto_region 18 with fail
 obtain ⟨w3,hw3⟩:=eX (w2.alloc (.cells #[.bool (decide (di1.num<0)),.slice C17 (Vx.len di1.num.natAbs) j17,.slice C18 (Vx.len (below di1.den)) j18,.bool (decide (di2.num<0)),.slice C19 (Vx.len di2.num.natAbs) j19,.slice C20 (Vx.len (below di2.den)) j20] 48))
 have b3:=hid (BE hw3)
 have L3:=hid (Bh hw3)
 rw [←hw3]
 clear hw3
 go_wp2_with fail
 obtain ⟨NN18,hNN⟩:=eY (w3.heap.size:Nat)
 have HSZ18:Hid (w3.heap.size=NN18):=hNN
 have y1_3:=hid (bS b2.out b3.out)
 obtain ⟨z_y_0,z_y_1,z_y_2,z_y_3,z_y_4,z_y_5⟩:=Ad' (Ac' L_y.out y1_3.out)
 have hlt18_y:blk_y<NN18:=Nat.lt_of_lt_of_eq (bL _ _ z_y_0) hNN
 have H0:=Ae'.start w3 NN18
 have H0':=H0
 unfold Ae' at H0'
 refine wp_region_held_drew (S:=(fun w'=>(∀ b o,b<NN18→w'.cell? ⟨b,o,none⟩=w3.cell? ⟨b,o,none⟩)∧Below (NN18) w3 w'∧Ag' w3 w')) (by kernel_rfl) ?_ (fun hHeld=>?_)
 · (try dsimp only)
   exact H0'
 obtain ⟨w4,hw4⟩:=eX w3.drew
 have b4:Hid (Below w3.heap.size w3 w4):=by rw [hw4];exact ⟨rfl,rfl,rfl,nL _,fun _ _=>rfl⟩
 rw [←hw4] at hHeld H0 ⊢
 clear hw4 H0' hNN
 as_aux_lemma =>
  refine tk (i:=0) (h:=?_)
  try simp only [Act.put,lt,ly,lu]
  refine rd (i:=1) (h:=fun K hK=>?_);go_simp;go_at_call 11
  refine (BB' (w:=w4) e_z0.out (by omega) (by omega)).mono ?_
  rintro e w5 ⟨v5,rfl,hv5,b5⟩
  obtain ⟨C21,j21,C22,j22,rfl,-,-⟩:=id hv5.opened
  replace hv5:=hid hv5
  replace b5:=hid b5
  have hk5:=AN' H0 HSZ18 b5.out;clear hHeld H0
  refine hK.out _ _ (by (try dsimp only);with_reducible exact hun hk5) (fun hHeld=>?_)
  clear hK K;try simp only [Act.put,lt,ly,lu]
  have y1_5:=hid (bS (bS y1_3.out b4.out) b5.out)
  refine rd (i:=2) (h:=fun K hK=>?_);go_simp;go_at_call 35
  refine (Cb hz.out (hv_y.out.keep y1_5.out) hv5.out m_c.out m_d.out m_z0.out).mono ?_
  rintro e w6 ⟨rfl,b6⟩
  replace b6:=hid b6
  have hk6:=AN' hk5 HSZ18 b6.out;clear hHeld hk5
  refine hK.out _ _ (by (try dsimp only);with_reducible exact hun hk6) (fun hHeld=>?_)
  clear hK K;try simp only [Act.put,lt,ly,lu]
  refine wpAnyH_done (by kernel_rfl) ?_ _
  clear hHeld
  clear z_y_0 z_y_1 z_y_2 z_y_3 z_y_4 z_y_5 hlt18_y
  clear hk6 HSZ18
  have y1_6:=hid (bS y1_5.out b6.out)
  have hRt6:=hid (hv_t.out.keep y1_6.out)
  have hRy6:=hid (hv_y.out.keep y1_6.out)
  have y2_6:=hid (bS (bS (bS b3.out b4.out) b5.out) b6.out)
  have hRvb6:=hid (hv2.out.keep y2_6.out)
  have LRt6:=hid (Ac' L_t.out y1_6.out)
  have LRy6:=hid (Ac' L_y.out y1_6.out)
  have y3_6:=hid (bS (bS b4.out b5.out) b6.out)
  have LRvb6:=hid (Ac' L3.out y3_6.out)
  have HMB6:=hid (Az' hM.out y1_6.out)
  have HTB6:=hid (tab_keep hT.out y1_6.out)
  have HBB6:=hid (bS hB.out y1_6.out)
  clear hv_t hv_y hv2 L_t L_y L3 hM hT hB b2 b3 b4 b5 b6
  go_upto_region 20 with fail
  go_wp2_with fail
  obtain ⟨NN20,hNN⟩:=eY (w6.heap.size:Nat)
  have HSZ20:Hid (w6.heap.size=NN20):=hNN
  obtain ⟨z_t_0,z_t_1,z_t_2,z_t_3,z_t_4,z_t_5⟩:=Ad' LRt6.out
  have hlt20_t:blk_t<NN20:=Nat.lt_of_lt_of_eq (bL _ _ z_t_0) hNN
  obtain ⟨z_y_0,z_y_1,z_y_2,z_y_3,z_y_4,z_y_5⟩:=Ad' LRy6.out
  have hlt20_y:blk_y<NN20:=Nat.lt_of_lt_of_eq (bL _ _ z_y_0) hNN
  obtain ⟨z_vb_0,z_vb_1,z_vb_2,z_vb_3,z_vb_4,z_vb_5⟩:=Ad' LRvb6.out
  have hlt20_vb:w2.heap.size<NN20:=Nat.lt_of_lt_of_eq (bL _ _ z_vb_0) hNN
  have H0:=Ae'.start w6 NN20
  have H0':=H0
  unfold Ae' at H0'
  refine wp_region_held_drew (S:=(fun w'=>(∀ b o,b<NN20→w'.cell? ⟨b,o,none⟩=w6.cell? ⟨b,o,none⟩)∧Below (NN20) w6 w'∧Ag' w6 w')) (by kernel_rfl) ?_ (fun hHeld=>?_)
  · (try dsimp only)
    exact H0'
  obtain ⟨w7,hw7⟩:=eX w6.drew
  have b7:Hid (Below w6.heap.size w6 w7):=by rw [hw7];exact ⟨rfl,rfl,rfl,nL _,fun _ _=>rfl⟩
  rw [←hw7] at hHeld H0 ⊢
  clear hw7 H0' hNN
  as_aux_lemma =>
   refine tk (i:=0) (h:=?_)
   try simp only [Act.put,lt,ly,lu]
   refine tk (i:=1) (h:=?_)
   try simp only [Act.put,lt,ly,lu]
   refine tk (i:=2) (h:=?_)
   try simp only [Act.put,lt,ly,lu]
   refine tk (i:=3) (h:=?_)
   try simp only [Act.put,lt,ly,lu]
   refine tk (i:=4) (h:=?_)
   try simp only [Act.put,lt,ly,lu]
   refine tk (i:=5) (h:=?_)
   try simp only [Act.put,lt,ly,lu]
   refine rd (i:=6) (h:=fun K hK=>?_);go_simp;go_at_call 36
   refine (Fz hc0.out hd0.out e_di1.out e_di2.out (hRt6.out.keep b7.out) (hRy6.out.keep b7.out) n_a.out n_b.out n_c.out n_d.out).mono ?_
   rintro e w8 ⟨v8,rfl,hv8,b8⟩
   obtain ⟨C23,j23,C24,j24,C25,j25,C26,j26,rfl,-,-,-,-⟩:=id hv8.opened
   replace hv8:=hid hv8
   replace b8:=hid b8
   have hk8:=AN' H0 HSZ20 b8.out;clear hHeld H0
   refine hK.out _ _ (by (try dsimp only);with_reducible exact hun hk8) (fun hHeld=>?_)
   clear hK K;try simp only [Act.put,lt,ly,lu]
   have y6_8:=hid (bS b7.out b8.out)
   refine rd (i:=7) (h:=fun K hK=>?_);go_simp;go_at_call 16
   refine (A2' (hRvb6.out.keep y6_8.out) hv8.out z_di1.out z_di2.out (tab_keep HTB6.out y6_8.out)).mono ?_
   rintro e w9 ⟨rfl,b9⟩
   replace b9:=hid b9
   have hk9:=AN' hk8 HSZ20 b9.out;clear hHeld hk8
   refine hK.out _ _ (by (try dsimp only);with_reducible exact hun hk9) (fun hHeld=>?_)
   clear hK K;try simp only [Act.put,lt,ly,lu]
   refine tk (i:=8) (h:=?_)
   try simp only [Act.put,lt,ly,lu]
   refine tk (i:=9) (h:=?_)
   try simp only [Act.put,lt,ly,lu]
   have y6_9:=hid (bS y6_8.out b9.out)
   refine rd (i:=10) (h:=fun K hK=>?_);go_simp;go_at_call 8
   refine (BH (Az' HMB6.out y6_9.out) (tab_keep HTB6.out y6_9.out)).mono ?_
   rintro e w10 ⟨rfl,b10⟩
   replace b10:=hid b10
   have hk10:=AN' hk9 HSZ20 b10.out;clear hHeld hk9
   refine hK.out _ _ (by (try dsimp only);with_reducible exact hun hk10) (fun hHeld=>?_)
   clear hK K;try simp only [Act.put,lt,ly,lu]
   refine tk (i:=11) (h:=?_)
   try simp only [Act.put,lt,ly,lu]
   as_aux_lemma =>
    refine tk (i:=12) (h:=?_)
    try simp only [Act.put,lt,ly,lu]
    have y6_10:=hid (bS y6_9.out b10.out)
    have HE:=hid (bS HBB6.out y6_10.out)
    refine wpAnyH_done (by kernel_rfl) ?_ _
    clear hHeld
    go_wp2_with fail
    go_ret
    exact ⟨rfl,HE.out⟩
end Go.Proofs.YtlcimajjnfbidaaGreatDoor.Rf
