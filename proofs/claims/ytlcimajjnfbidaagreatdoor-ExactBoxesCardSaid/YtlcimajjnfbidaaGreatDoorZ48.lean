/-
  Contracts of the functions that the law calls, for every input (Bpb Bpc).
-/
import Derived.Test.YtlcimajjnfbidaaGreatDoorZ00
import Derived.Test.YtlcimajjnfbidaaGreatDoorZ47
set_option linter.all false
set_option maxRecDepth 100000
set_option maxHeartbeats 40000000
namespace Go.Proofs.YtlcimajjnfbidaaGreatDoor.Rf
open Lib (hid)
open Go.RowKit
open Rx
open Vx (Aa' Ao Ao')
open List renaming getElem?_toArray → lg, getElem?_cons_zero → lz, getElem?_cons_succ → ls, setIfInBounds_toArray → lt, set_cons_zero → ly, set_cons_succ → lu
theorem IW {w w1:World} {mx:Int} {a b c d:Rat} {n:Int} {C1 C2 C3 C4:Option Addr} {j1 j2 j3 j4 blk_s:Nat} {C5 C6 C7 C8:Option Addr} {j5 j6 j7 j8 blk_t:Nat} {C9 C10 C11 C12:Option Addr} {j9 j10 j11 j12 blk_x:Nat} {C13 C14 C15 C16:Option Addr} {j13 j14 j15 j16 blk_y:Nat} {y0 y1 y3 y4 y5 y6 y11 y12 y13 y14 y15 y16 y17 y18 y19 y20 y21 y22 y23 y24 y25 y26 y27 y28 y29 y30 y31 y32 y33 y34 y35 y36 y37 y38 y39 y40 y41 y42 y43 y44 y45 y46 y47 y48 y49 y50 y51 y52 y53 y54 y55 y56 y57 y58 y59 y60 y61 y62 y63 y64 y65 y66 y67 y68 y69 y70 y71 y72 y73 y74 y75 y76 y77 y78 y79 y80 y81 y82 y83 y84 y85 y86 y87 y88 y89 y90 y91 y92 y93 y94 y95 y96 y97 y98 y99 y100 y101 y102 y103 y104 y105 y106 y107 y108 y109 y110 y111 y112 y113 y114 y115 y116 y117 y118 y119 y120 y121 y122 y123 y124 y125 y126 y127 y128 y129 y130 y131 y132 y133 y134 y135 y136 y137 y138 y139 y140 y141 y142 y143 y144 y145 y146 y147 y148 y149 y150 y151 y152 y153 y154 y155 y156 y157 y158 y159 y160 y161 y162 y163 y164 y165 y166 y167 y168 y169 y170 y171 y172 y173 y174 y175 y176 y177 y178 y179 y180 y181 y182 y183 y184 y185 y186 y187 y188 y189 y190 y191 y192:Value}
   (k_a:Aa' a≤130) (k_b:Aa' b≤130) (k_c:Aa' c≤130) (k_d:Aa' d≤130) (hab:a≤b) (hcd:c≤d) (hnn:n<0)
   (hv_s:Am' w1 (.agg #[.bool (decide (a.num<0)),.slice C1 (Vx.len a.num.natAbs) j1,.slice C2 (Vx.len (below a.den)) j2,.bool (decide (b.num<0)),.slice C3 (Vx.len b.num.natAbs) j3,.slice C4 (Vx.len (below b.den)) j4]) a b) (L_s:w1.heap[blk_s]?=some (.cells #[.bool (decide (a.num<0)),.slice C1 (Vx.len a.num.natAbs) j1,.slice C2 (Vx.len (below a.den)) j2,.bool (decide (b.num<0)),.slice C3 (Vx.len b.num.natAbs) j3,.slice C4 (Vx.len (below b.den)) j4] 48 (0,0))) (hv_t:Aq w1 (.agg #[.bool (decide (a.num<0)),.slice C5 (len a.num.natAbs) j5,.slice C6 (len a.den) j6,.bool (decide (b.num<0)),.slice C7 (len b.num.natAbs) j7,.slice C8 (len b.den) j8]) a b) (L_t:w1.heap[blk_t]?=some (.cells #[.bool (decide (a.num<0)),.slice C5 (len a.num.natAbs) j5,.slice C6 (len a.den) j6,.bool (decide (b.num<0)),.slice C7 (len b.num.natAbs) j7,.slice C8 (len b.den) j8] 50 (0,0))) (hv_x:Am' w1 (.agg #[.bool (decide (c.num<0)),.slice C9 (Vx.len c.num.natAbs) j9,.slice C10 (Vx.len (below c.den)) j10,.bool (decide (d.num<0)),.slice C11 (Vx.len d.num.natAbs) j11,.slice C12 (Vx.len (below d.den)) j12]) c d) (L_x:w1.heap[blk_x]?=some (.cells #[.bool (decide (c.num<0)),.slice C9 (Vx.len c.num.natAbs) j9,.slice C10 (Vx.len (below c.den)) j10,.bool (decide (d.num<0)),.slice C11 (Vx.len d.num.natAbs) j11,.slice C12 (Vx.len (below d.den)) j12] 48 (0,0))) (hv_y:Aq w1 (.agg #[.bool (decide (c.num<0)),.slice C13 (len c.num.natAbs) j13,.slice C14 (len c.den) j14,.bool (decide (d.num<0)),.slice C15 (len d.num.natAbs) j15,.slice C16 (len d.den) j16]) c d) (L_y:w1.heap[blk_y]?=some (.cells #[.bool (decide (c.num<0)),.slice C13 (len c.num.natAbs) j13,.slice C14 (len c.den) j14,.bool (decide (d.num<0)),.slice C15 (len d.num.natAbs) j15,.slice C16 (len d.den) j16] 50 (0,0))) (hM:w1.cell? ⟨1,0,none⟩=some (.int .i64 mx)) (hT:TabAt 0 Lib.deBruijn64tab w1) (hB:Below w.heap.size w w1) :
   (codeAt 8 Tryz.f4).wp Tryz.prog (bodyPost Tryz.prog Tryz.f4 (AM w true)) { tmps:=#[y0,y1,.int .i64 n,y3,y4,y5,y6,.pointer (some ⟨blk_s,0,none⟩),.pointer (some ⟨blk_t,0,none⟩),.pointer (some ⟨blk_x,0,none⟩),.pointer (some ⟨blk_y,0,none⟩),y11,y12,y13,y14,y15,y16,y17,y18,y19,y20,y21,y22,y23,y24,y25,y26,y27,y28,y29,y30,y31,y32,y33,y34,y35,y36,y37,y38,y39,y40,y41,y42,y43,y44,y45,y46,y47,y48,y49,y50,y51,y52,y53,y54,y55,y56,y57,y58,y59,y60,y61,y62,y63,y64,y65,y66,y67,y68,y69,y70,y71,y72,y73,y74,y75,y76,y77,y78,y79,y80,y81,y82,y83,y84,y85,y86,y87,y88,y89,y90,y91,y92,y93,y94,y95,y96,y97,y98,y99,y100,y101,y102,y103,y104,y105,y106,y107,y108,y109,y110,y111,y112,y113,y114,y115,y116,y117,y118,y119,y120,y121,y122,y123,y124,y125,y126,y127,y128,y129,y130,y131,y132,y133,y134,y135,y136,y137,y138,y139,y140,y141,y142,y143,y144,y145,y146,y147,y148,y149,y150,y151,y152,y153,y154,y155,y156,y157,y158,y159,y160,y161,y162,y163,y164,y165,y166,y167,y168,y169,y170,y171,y172,y173,y174,y175,y176,y177,y178,y179,y180,y181,y182,y183,y184,y185,y186,y187,y188,y189,y190,y191,y192],defers:=[] } w1:=by
 have z_a:Aa' a≤4100:=by omega
 have z_b:Aa' b≤4100:=by omega
 have z_c:Aa' c≤4100:=by omega
 have z_d:Aa' d≤4100:=by omega
 obtain ⟨o,e_o⟩:=eY (0:Rat)
 have d7:decide (n<0)=true:=dT_ hnn
 replace k_a:=hid k_a
 replace k_b:=hid k_b
 replace k_c:=hid k_c
 replace k_d:=hid k_d
 replace hab:=hid hab
 replace hcd:=hid hcd
 replace z_a:=hid z_a
 replace z_b:=hid z_b
 replace z_c:=hid z_c
 replace z_d:=hid z_d
 replace e_o:=hid e_o
 replace hnn:=hid hnn
 replace hv_s:=hid hv_s
 replace hv_t:=hid hv_t
 replace hv_x:=hid hv_x
 replace hv_y:=hid hv_y
 replace L_s:=hid L_s
 replace L_t:=hid L_t
 replace L_x:=hid L_x
 replace L_y:=hid L_y
 replace hM:=hid hM
 replace hT:=hid hT
 replace hB:=hid hB
 show Code.wp _ (Code.seq _ _) _ _ _
 go_upto_region 11 with fail
 obtain ⟨z_s_0,z_s_1,z_s_2,z_s_3,z_s_4,z_s_5⟩:=Ad' L_s.out
 have HX:=hid (Go' e_o.out hnn.out hv_s.out)
 go_wp2_with fail
 refine (HX.out).mono ?_
 rintro e w2 ⟨v2,rfl,hv2,b2⟩
 obtain ⟨C17,j17,C18,j18,C19,j19,C20,j20,rfl,-,-,-,-⟩:=id hv2.opened
 replace hv2:=hid hv2
 replace b2:=hid b2
 clear HX
 clear z_s_0 z_s_1 z_s_2 z_s_3 z_s_4 z_s_5
 go_upto_region 12 with fail
 obtain ⟨w3,hw3⟩:=eX (w2.alloc (.cells #[.bool (decide (o.num<0)),.slice C17 (Vx.len o.num.natAbs) j17,.slice C18 (Vx.len (below o.den)) j18,.bool (decide (o.num<0)),.slice C19 (Vx.len o.num.natAbs) j19,.slice C20 (Vx.len (below o.den)) j20] 48))
 have b3:=hid (BE hw3)
 have L3:=hid (Bh hw3)
 rw [←hw3]
 clear hw3
 rename_i G hG Gb hGb
 replace hG:=hid hG
 obtain ⟨z_wb_0,z_wb_1,z_wb_2,z_wb_3,z_wb_4,z_wb_5⟩:=Ad' L3.out
 have HX:=hid (DI e_o.out.symm e_o.out.symm (hv2.out.keep b3.out))
 go_wp2_with fail
 refine (HX.out).mono ?_
 rintro e w4 ⟨rfl,b4⟩
 replace b4:=hid b4
 clear HX
 clear z_wb_0 z_wb_1 z_wb_2 z_wb_3 z_wb_4 z_wb_5
 have y1_4:=hid (bS (bS b2.out b3.out) b4.out)
 have hRs4:=hid (hv_s.out.keep y1_4.out)
 have hRt4:=hid (hv_t.out.keep y1_4.out)
 have hRx4:=hid (hv_x.out.keep y1_4.out)
 have hRy4:=hid (hv_y.out.keep y1_4.out)
 have LRs4:=hid (Ac' L_s.out y1_4.out)
 have LRt4:=hid (Ac' L_t.out y1_4.out)
 have LRx4:=hid (Ac' L_x.out y1_4.out)
 have LRy4:=hid (Ac' L_y.out y1_4.out)
 have HMB4:=hid (Az' hM.out y1_4.out)
 have HTB4:=hid (tab_keep hT.out y1_4.out)
 have HBB4:=hid (bS hB.out y1_4.out)
 clear hv_s hv_t hv_x hv_y L_s L_t L_x L_y hM hT hB b2 b3 b4
 go_wp2_with fail
 refine hG.out _ _ ?_
 rcases Decidable.em (c≤0∧0≤d) with h0 | h0
 · exact Ec' k_a.out k_b.out k_c.out k_d.out hab.out hcd.out h0 hRs4.out LRs4.out hRt4.out LRt4.out hRx4.out LRx4.out hRy4.out LRy4.out HMB4.out HTB4.out HBB4.out
 · exact Fk k_a.out k_b.out k_c.out k_d.out hab.out hcd.out h0 hRs4.out LRs4.out hRt4.out LRt4.out hRx4.out LRx4.out hRy4.out LRy4.out HMB4.out HTB4.out HBB4.out
theorem IG' {w w1:World} {mx:Int} {a b c d:Rat} {n:Int} {C1 C2 C3 C4:Option Addr} {j1 j2 j3 j4 blk_s:Nat} {C5 C6 C7 C8:Option Addr} {j5 j6 j7 j8 blk_t:Nat} {C9 C10 C11 C12:Option Addr} {j9 j10 j11 j12 blk_x:Nat} {C13 C14 C15 C16:Option Addr} {j13 j14 j15 j16 blk_y:Nat} {y0 y1 y3 y4 y5 y6 y11 y12 y13 y14 y15 y16 y17 y18 y19 y20 y21 y22 y23 y24 y25 y26 y27 y28 y29 y30 y31 y32 y33 y34 y35 y36 y37 y38 y39 y40 y41 y42 y43 y44 y45 y46 y47 y48 y49 y50 y51 y52 y53 y54 y55 y56 y57 y58 y59 y60 y61 y62 y63 y64 y65 y66 y67 y68 y69 y70 y71 y72 y73 y74 y75 y76 y77 y78 y79 y80 y81 y82 y83 y84 y85 y86 y87 y88 y89 y90 y91 y92 y93 y94 y95 y96 y97 y98 y99 y100 y101 y102 y103 y104 y105 y106 y107 y108 y109 y110 y111 y112 y113 y114 y115 y116 y117 y118 y119 y120 y121 y122 y123 y124 y125 y126 y127 y128 y129 y130 y131 y132 y133 y134 y135 y136 y137 y138 y139 y140 y141 y142 y143 y144 y145 y146 y147 y148 y149 y150 y151 y152 y153 y154 y155 y156 y157 y158 y159 y160 y161 y162 y163 y164 y165 y166 y167 y168 y169 y170 y171 y172 y173 y174 y175 y176 y177 y178 y179 y180 y181 y182 y183 y184 y185 y186 y187 y188 y189 y190 y191 y192:Value}
   (k_a:Aa' a≤130) (k_b:Aa' b≤130) (k_c:Aa' c≤130) (k_d:Aa' d≤130) (hab:a≤b) (hcd:c≤d) (hnn:64<n)
   (hv_s:Am' w1 (.agg #[.bool (decide (a.num<0)),.slice C1 (Vx.len a.num.natAbs) j1,.slice C2 (Vx.len (below a.den)) j2,.bool (decide (b.num<0)),.slice C3 (Vx.len b.num.natAbs) j3,.slice C4 (Vx.len (below b.den)) j4]) a b) (L_s:w1.heap[blk_s]?=some (.cells #[.bool (decide (a.num<0)),.slice C1 (Vx.len a.num.natAbs) j1,.slice C2 (Vx.len (below a.den)) j2,.bool (decide (b.num<0)),.slice C3 (Vx.len b.num.natAbs) j3,.slice C4 (Vx.len (below b.den)) j4] 48 (0,0))) (hv_t:Aq w1 (.agg #[.bool (decide (a.num<0)),.slice C5 (len a.num.natAbs) j5,.slice C6 (len a.den) j6,.bool (decide (b.num<0)),.slice C7 (len b.num.natAbs) j7,.slice C8 (len b.den) j8]) a b) (L_t:w1.heap[blk_t]?=some (.cells #[.bool (decide (a.num<0)),.slice C5 (len a.num.natAbs) j5,.slice C6 (len a.den) j6,.bool (decide (b.num<0)),.slice C7 (len b.num.natAbs) j7,.slice C8 (len b.den) j8] 50 (0,0))) (hv_x:Am' w1 (.agg #[.bool (decide (c.num<0)),.slice C9 (Vx.len c.num.natAbs) j9,.slice C10 (Vx.len (below c.den)) j10,.bool (decide (d.num<0)),.slice C11 (Vx.len d.num.natAbs) j11,.slice C12 (Vx.len (below d.den)) j12]) c d) (L_x:w1.heap[blk_x]?=some (.cells #[.bool (decide (c.num<0)),.slice C9 (Vx.len c.num.natAbs) j9,.slice C10 (Vx.len (below c.den)) j10,.bool (decide (d.num<0)),.slice C11 (Vx.len d.num.natAbs) j11,.slice C12 (Vx.len (below d.den)) j12] 48 (0,0))) (hv_y:Aq w1 (.agg #[.bool (decide (c.num<0)),.slice C13 (len c.num.natAbs) j13,.slice C14 (len c.den) j14,.bool (decide (d.num<0)),.slice C15 (len d.num.natAbs) j15,.slice C16 (len d.den) j16]) c d) (L_y:w1.heap[blk_y]?=some (.cells #[.bool (decide (c.num<0)),.slice C13 (len c.num.natAbs) j13,.slice C14 (len c.den) j14,.bool (decide (d.num<0)),.slice C15 (len d.num.natAbs) j15,.slice C16 (len d.den) j16] 50 (0,0))) (hM:w1.cell? ⟨1,0,none⟩=some (.int .i64 mx)) (hT:TabAt 0 Lib.deBruijn64tab w1) (hB:Below w.heap.size w w1) :
   (codeAt 8 Tryz.f4).wp Tryz.prog (bodyPost Tryz.prog Tryz.f4 (AM w true)) { tmps:=#[y0,y1,.int .i64 n,y3,y4,y5,y6,.pointer (some ⟨blk_s,0,none⟩),.pointer (some ⟨blk_t,0,none⟩),.pointer (some ⟨blk_x,0,none⟩),.pointer (some ⟨blk_y,0,none⟩),y11,y12,y13,y14,y15,y16,y17,y18,y19,y20,y21,y22,y23,y24,y25,y26,y27,y28,y29,y30,y31,y32,y33,y34,y35,y36,y37,y38,y39,y40,y41,y42,y43,y44,y45,y46,y47,y48,y49,y50,y51,y52,y53,y54,y55,y56,y57,y58,y59,y60,y61,y62,y63,y64,y65,y66,y67,y68,y69,y70,y71,y72,y73,y74,y75,y76,y77,y78,y79,y80,y81,y82,y83,y84,y85,y86,y87,y88,y89,y90,y91,y92,y93,y94,y95,y96,y97,y98,y99,y100,y101,y102,y103,y104,y105,y106,y107,y108,y109,y110,y111,y112,y113,y114,y115,y116,y117,y118,y119,y120,y121,y122,y123,y124,y125,y126,y127,y128,y129,y130,y131,y132,y133,y134,y135,y136,y137,y138,y139,y140,y141,y142,y143,y144,y145,y146,y147,y148,y149,y150,y151,y152,y153,y154,y155,y156,y157,y158,y159,y160,y161,y162,y163,y164,y165,y166,y167,y168,y169,y170,y171,y172,y173,y174,y175,y176,y177,y178,y179,y180,y181,y182,y183,y184,y185,y186,y187,y188,y189,y190,y191,y192],defers:=[] } w1:=by
 have z_a:Aa' a≤4100:=by omega
 have z_b:Aa' b≤4100:=by omega
 have z_c:Aa' c≤4100:=by omega
 have z_d:Aa' d≤4100:=by omega
 obtain ⟨o,e_o⟩:=eY (0:Rat)
 have d7:decide (n<0)=false:=dF_ (by omega)
 have d8:decide (n>64)=true:=dT_ hnn
 replace k_a:=hid k_a
 replace k_b:=hid k_b
 replace k_c:=hid k_c
 replace k_d:=hid k_d
 replace hab:=hid hab
 replace hcd:=hid hcd
 replace z_a:=hid z_a
 replace z_b:=hid z_b
 replace z_c:=hid z_c
 replace z_d:=hid z_d
 replace e_o:=hid e_o
 replace hnn:=hid hnn
 replace hv_s:=hid hv_s
 replace hv_t:=hid hv_t
 replace hv_x:=hid hv_x
 replace hv_y:=hid hv_y
 replace L_s:=hid L_s
 replace L_t:=hid L_t
 replace L_x:=hid L_x
 replace L_y:=hid L_y
 replace hM:=hid hM
 replace hT:=hid hT
 replace hB:=hid hB
 show Code.wp _ (Code.seq _ _) _ _ _
 go_upto_region 11 with fail
 obtain ⟨z_s_0,z_s_1,z_s_2,z_s_3,z_s_4,z_s_5⟩:=Ad' L_s.out
 have HX:=hid (Gp e_o.out hnn.out hv_s.out)
 go_wp2_with fail
 refine (HX.out).mono ?_
 rintro e w2 ⟨v2,rfl,hv2,b2⟩
 obtain ⟨C17,j17,C18,j18,C19,j19,C20,j20,rfl,-,-,-,-⟩:=id hv2.opened
 replace hv2:=hid hv2
 replace b2:=hid b2
 clear HX
 clear z_s_0 z_s_1 z_s_2 z_s_3 z_s_4 z_s_5
 go_upto_region 12 with fail
 obtain ⟨w3,hw3⟩:=eX (w2.alloc (.cells #[.bool (decide (o.num<0)),.slice C17 (Vx.len o.num.natAbs) j17,.slice C18 (Vx.len (below o.den)) j18,.bool (decide (o.num<0)),.slice C19 (Vx.len o.num.natAbs) j19,.slice C20 (Vx.len (below o.den)) j20] 48))
 have b3:=hid (BE hw3)
 have L3:=hid (Bh hw3)
 rw [←hw3]
 clear hw3
 rename_i G hG Gb hGb
 replace hG:=hid hG
 obtain ⟨z_wb_0,z_wb_1,z_wb_2,z_wb_3,z_wb_4,z_wb_5⟩:=Ad' L3.out
 have HX:=hid (DI e_o.out.symm e_o.out.symm (hv2.out.keep b3.out))
 go_wp2_with fail
 refine (HX.out).mono ?_
 rintro e w4 ⟨rfl,b4⟩
 replace b4:=hid b4
 clear HX
 clear z_wb_0 z_wb_1 z_wb_2 z_wb_3 z_wb_4 z_wb_5
 have y1_4:=hid (bS (bS b2.out b3.out) b4.out)
 have hRs4:=hid (hv_s.out.keep y1_4.out)
 have hRt4:=hid (hv_t.out.keep y1_4.out)
 have hRx4:=hid (hv_x.out.keep y1_4.out)
 have hRy4:=hid (hv_y.out.keep y1_4.out)
 have LRs4:=hid (Ac' L_s.out y1_4.out)
 have LRt4:=hid (Ac' L_t.out y1_4.out)
 have LRx4:=hid (Ac' L_x.out y1_4.out)
 have LRy4:=hid (Ac' L_y.out y1_4.out)
 have HMB4:=hid (Az' hM.out y1_4.out)
 have HTB4:=hid (tab_keep hT.out y1_4.out)
 have HBB4:=hid (bS hB.out y1_4.out)
 clear hv_s hv_t hv_x hv_y L_s L_t L_x L_y hM hT hB b2 b3 b4
 go_wp2_with fail
 refine hG.out _ _ ?_
 rcases Decidable.em (c≤0∧0≤d) with h0 | h0
 · exact Ec' k_a.out k_b.out k_c.out k_d.out hab.out hcd.out h0 hRs4.out LRs4.out hRt4.out LRt4.out hRx4.out LRx4.out hRy4.out LRy4.out HMB4.out HTB4.out HBB4.out
 · exact Fk k_a.out k_b.out k_c.out k_d.out hab.out hcd.out h0 hRs4.out LRs4.out hRt4.out LRt4.out hRx4.out LRx4.out hRy4.out LRy4.out HMB4.out HTB4.out HBB4.out
theorem bx_in {w w1:World} {mx:Int} {a b c d:Rat} {k:Nat} {C1 C2 C3 C4:Option Addr} {j1 j2 j3 j4 blk_s:Nat} {C5 C6 C7 C8:Option Addr} {j5 j6 j7 j8 blk_t:Nat} {C9 C10 C11 C12:Option Addr} {j9 j10 j11 j12 blk_x:Nat} {C13 C14 C15 C16:Option Addr} {j13 j14 j15 j16 blk_y:Nat} {y0 y1 y3 y4 y5 y6 y11 y12 y13 y14 y15 y16 y17 y18 y19 y20 y21 y22 y23 y24 y25 y26 y27 y28 y29 y30 y31 y32 y33 y34 y35 y36 y37 y38 y39 y40 y41 y42 y43 y44 y45 y46 y47 y48 y49 y50 y51 y52 y53 y54 y55 y56 y57 y58 y59 y60 y61 y62 y63 y64 y65 y66 y67 y68 y69 y70 y71 y72 y73 y74 y75 y76 y77 y78 y79 y80 y81 y82 y83 y84 y85 y86 y87 y88 y89 y90 y91 y92 y93 y94 y95 y96 y97 y98 y99 y100 y101 y102 y103 y104 y105 y106 y107 y108 y109 y110 y111 y112 y113 y114 y115 y116 y117 y118 y119 y120 y121 y122 y123 y124 y125 y126 y127 y128 y129 y130 y131 y132 y133 y134 y135 y136 y137 y138 y139 y140 y141 y142 y143 y144 y145 y146 y147 y148 y149 y150 y151 y152 y153 y154 y155 y156 y157 y158 y159 y160 y161 y162 y163 y164 y165 y166 y167 y168 y169 y170 y171 y172 y173 y174 y175 y176 y177 y178 y179 y180 y181 y182 y183 y184 y185 y186 y187 y188 y189 y190 y191 y192:Value}
   (k_a:Aa' a≤130) (k_b:Aa' b≤130) (k_c:Aa' c≤130) (k_d:Aa' d≤130) (hab:a≤b) (hcd:c≤d) (hk8:k≤8)
   (hv_s:Am' w1 (.agg #[.bool (decide (a.num<0)),.slice C1 (Vx.len a.num.natAbs) j1,.slice C2 (Vx.len (below a.den)) j2,.bool (decide (b.num<0)),.slice C3 (Vx.len b.num.natAbs) j3,.slice C4 (Vx.len (below b.den)) j4]) a b) (L_s:w1.heap[blk_s]?=some (.cells #[.bool (decide (a.num<0)),.slice C1 (Vx.len a.num.natAbs) j1,.slice C2 (Vx.len (below a.den)) j2,.bool (decide (b.num<0)),.slice C3 (Vx.len b.num.natAbs) j3,.slice C4 (Vx.len (below b.den)) j4] 48 (0,0))) (hv_t:Aq w1 (.agg #[.bool (decide (a.num<0)),.slice C5 (len a.num.natAbs) j5,.slice C6 (len a.den) j6,.bool (decide (b.num<0)),.slice C7 (len b.num.natAbs) j7,.slice C8 (len b.den) j8]) a b) (L_t:w1.heap[blk_t]?=some (.cells #[.bool (decide (a.num<0)),.slice C5 (len a.num.natAbs) j5,.slice C6 (len a.den) j6,.bool (decide (b.num<0)),.slice C7 (len b.num.natAbs) j7,.slice C8 (len b.den) j8] 50 (0,0))) (hv_x:Am' w1 (.agg #[.bool (decide (c.num<0)),.slice C9 (Vx.len c.num.natAbs) j9,.slice C10 (Vx.len (below c.den)) j10,.bool (decide (d.num<0)),.slice C11 (Vx.len d.num.natAbs) j11,.slice C12 (Vx.len (below d.den)) j12]) c d) (L_x:w1.heap[blk_x]?=some (.cells #[.bool (decide (c.num<0)),.slice C9 (Vx.len c.num.natAbs) j9,.slice C10 (Vx.len (below c.den)) j10,.bool (decide (d.num<0)),.slice C11 (Vx.len d.num.natAbs) j11,.slice C12 (Vx.len (below d.den)) j12] 48 (0,0))) (hv_y:Aq w1 (.agg #[.bool (decide (c.num<0)),.slice C13 (len c.num.natAbs) j13,.slice C14 (len c.den) j14,.bool (decide (d.num<0)),.slice C15 (len d.num.natAbs) j15,.slice C16 (len d.den) j16]) c d) (L_y:w1.heap[blk_y]?=some (.cells #[.bool (decide (c.num<0)),.slice C13 (len c.num.natAbs) j13,.slice C14 (len c.den) j14,.bool (decide (d.num<0)),.slice C15 (len d.num.natAbs) j15,.slice C16 (len d.den) j16] 50 (0,0))) (hM:w1.cell? ⟨1,0,none⟩=some (.int .i64 mx)) (hT:TabAt 0 Lib.deBruijn64tab w1) (hB:Below w.heap.size w w1) :
   (codeAt 8 Tryz.f4).wp Tryz.prog (bodyPost Tryz.prog Tryz.f4 (AM w true)) { tmps:=#[y0,y1,.int .i64 ((k:Nat):Int),y3,y4,y5,y6,.pointer (some ⟨blk_s,0,none⟩),.pointer (some ⟨blk_t,0,none⟩),.pointer (some ⟨blk_x,0,none⟩),.pointer (some ⟨blk_y,0,none⟩),y11,y12,y13,y14,y15,y16,y17,y18,y19,y20,y21,y22,y23,y24,y25,y26,y27,y28,y29,y30,y31,y32,y33,y34,y35,y36,y37,y38,y39,y40,y41,y42,y43,y44,y45,y46,y47,y48,y49,y50,y51,y52,y53,y54,y55,y56,y57,y58,y59,y60,y61,y62,y63,y64,y65,y66,y67,y68,y69,y70,y71,y72,y73,y74,y75,y76,y77,y78,y79,y80,y81,y82,y83,y84,y85,y86,y87,y88,y89,y90,y91,y92,y93,y94,y95,y96,y97,y98,y99,y100,y101,y102,y103,y104,y105,y106,y107,y108,y109,y110,y111,y112,y113,y114,y115,y116,y117,y118,y119,y120,y121,y122,y123,y124,y125,y126,y127,y128,y129,y130,y131,y132,y133,y134,y135,y136,y137,y138,y139,y140,y141,y142,y143,y144,y145,y146,y147,y148,y149,y150,y151,y152,y153,y154,y155,y156,y157,y158,y159,y160,y161,y162,y163,y164,y165,y166,y167,y168,y169,y170,y171,y172,y173,y174,y175,y176,y177,y178,y179,y180,y181,y182,y183,y184,y185,y186,y187,y188,y189,y190,y191,y192],defers:=[] } w1:=by
 have z_a:Aa' a≤4100:=by omega
 have z_b:Aa' b≤4100:=by omega
 have z_c:Aa' c≤4100:=by omega
 have z_d:Aa' d≤4100:=by omega
 obtain ⟨po1,e_po1⟩:=eY ((if k%2=0 then absLo a b else a)^k:Rat)
 obtain ⟨po2,e_po2⟩:=eY ((if k%2=0 then absHi a b else b)^k:Rat)
 have z_po1:Aa' po1≤4100:=by
   rw [←e_po1]
   refine Fj' ?_ hk8;split
   · exact Di' (by omega) k_a k_b
   · exact k_a
 have z_po2:Aa' po2≤4100:=by
   rw [←e_po2]
   refine Fj' ?_ hk8;split
   · exact Dj (by omega) k_a k_b
   · exact k_b
 have hk64:k≤64:=by omega
 clear hk8
 have d7:decide ((k:Int)<0)=false:=dF_ (by omega)
 have d8:decide ((k:Int)>64)=false:=dF_ (by omega)
 replace k_a:=hid k_a
 replace k_b:=hid k_b
 replace k_c:=hid k_c
 replace k_d:=hid k_d
 replace hab:=hid hab
 replace hcd:=hid hcd
 replace z_a:=hid z_a
 replace z_b:=hid z_b
 replace z_c:=hid z_c
 replace z_d:=hid z_d
 replace e_po1:=hid e_po1
 replace e_po2:=hid e_po2
 replace z_po1:=hid z_po1
 replace z_po2:=hid z_po2
 replace hk64:=hid hk64
 replace hv_s:=hid hv_s
 replace hv_t:=hid hv_t
 replace hv_x:=hid hv_x
 replace hv_y:=hid hv_y
 replace L_s:=hid L_s
 replace L_t:=hid L_t
 replace L_x:=hid L_x
 replace L_y:=hid L_y
 replace hM:=hid hM
 replace hT:=hid hT
 replace hB:=hid hB
 show Code.wp _ (Code.seq _ _) _ _ _
 go_upto_region 11 with fail
 obtain ⟨z_s_0,z_s_1,z_s_2,z_s_3,z_s_4,z_s_5⟩:=Ad' L_s.out
 have HX:=hid (Gs e_po1.out e_po2.out hv_s.out hk64.out z_a.out z_b.out)
 go_wp2_with fail
 refine (HX.out).mono ?_
 rintro e w2 ⟨v2,rfl,hv2,b2⟩
 obtain ⟨C17,j17,C18,j18,C19,j19,C20,j20,rfl,-,-,-,-⟩:=id hv2.opened
 replace hv2:=hid hv2
 replace b2:=hid b2
 clear HX
 clear z_s_0 z_s_1 z_s_2 z_s_3 z_s_4 z_s_5
 go_upto_region 12 with fail
 obtain ⟨w3,hw3⟩:=eX (w2.alloc (.cells #[.bool (decide (po1.num<0)),.slice C17 (Vx.len po1.num.natAbs) j17,.slice C18 (Vx.len (below po1.den)) j18,.bool (decide (po2.num<0)),.slice C19 (Vx.len po2.num.natAbs) j19,.slice C20 (Vx.len (below po2.den)) j20] 48))
 have b3:=hid (BE hw3)
 have L3:=hid (Bh hw3)
 rw [←hw3]
 clear hw3
 rename_i G hG Gb hGb
 replace hG:=hid hG
 go_upto_region 15 with fail
 go_wp2_with fail
 obtain ⟨NN15,hNN⟩:=eY (w3.heap.size:Nat)
 have HSZ15:Hid (w3.heap.size=NN15):=hNN
 have y1_3:=hid (bS b2.out b3.out)
 obtain ⟨z_t_0,z_t_1,z_t_2,z_t_3,z_t_4,z_t_5⟩:=Ad' (Ac' L_t.out y1_3.out)
 have hlt15_t:blk_t<NN15:=Nat.lt_of_lt_of_eq (bL _ _ z_t_0) hNN
 obtain ⟨z_wb_0,z_wb_1,z_wb_2,z_wb_3,z_wb_4,z_wb_5⟩:=Ad' L3.out
 have hlt15_wb:w2.heap.size<NN15:=Nat.lt_of_lt_of_eq (bL _ _ z_wb_0) hNN
 have H0:=Ae'.start w3 NN15
 have H0':=H0
 unfold Ae' at H0'
 refine wp_region_held_drew (S:=(fun w'=>(∀ b o,b<NN15→w'.cell? ⟨b,o,none⟩=w3.cell? ⟨b,o,none⟩)∧Below (NN15) w3 w'∧Ag' w3 w')) (by kernel_rfl) ?_ (fun hHeld=>?_)
 · (try dsimp only)
   exact H0'
 obtain ⟨w4,hw4⟩:=eX w3.drew
 have b4:Hid (Below w3.heap.size w3 w4):=by rw [hw4];exact ⟨rfl,rfl,rfl,nL _,fun _ _=>rfl⟩
 rw [←hw4] at hHeld H0 ⊢
 clear hw4 H0' hNN
 as_aux_lemma =>
  refine tk (i:=0) (h:=?_)
  try simp only [Act.put,lt,ly,lu]
  refine tk (i:=1) (h:=?_)
  try simp only [Act.put,lt,ly,lu]
  refine tk (i:=2) (h:=?_)
  try simp only [Act.put,lt,ly,lu]
  refine tk (i:=3) (h:=?_)
  try simp only [Act.put,lt,ly,lu]
  refine tk (i:=4) (h:=?_)
  try simp only [Act.put,lt,ly,lu]
  refine tk (i:=5) (h:=?_)
  try simp only [Act.put,lt,ly,lu]
  have y1_4:=hid (bS y1_3.out b4.out)
  refine rd (i:=6) (h:=fun K hK=>?_);go_simp;go_at_call 33
  refine (FE' hab.out e_po1.out e_po2.out (hv_t.out.keep y1_4.out) hk64.out z_a.out z_b.out).mono ?_
  rintro e w5 ⟨v5,rfl,hv5,b5⟩
  obtain ⟨C21,j21,C22,j22,C23,j23,C24,j24,rfl,-,-,-,-⟩:=id hv5.opened
  replace hv5:=hid hv5
  replace b5:=hid b5
  have hk5:=AN' H0 HSZ15 b5.out;clear hHeld H0
  refine hK.out _ _ (by (try dsimp only);with_reducible exact hun hk5) (fun hHeld=>?_)
  clear hK K;try simp only [Act.put,lt,ly,lu]
  have y2_5:=hid (bS (bS b3.out b4.out) b5.out)
  have y1_5:=hid (bS y1_4.out b5.out)
  refine rd (i:=7) (h:=fun K hK=>?_);go_simp;go_at_call 16
  refine (A2' (hv2.out.keep y2_5.out) hv5.out z_po1.out z_po2.out (tab_keep hT.out y1_5.out)).mono ?_
  rintro e w6 ⟨rfl,b6⟩
  replace b6:=hid b6
  have hk6:=AN' hk5 HSZ15 b6.out;clear hHeld hk5
  refine hK.out _ _ (by (try dsimp only);with_reducible exact hun hk6) (fun hHeld=>?_)
  clear hK K;try simp only [Act.put,lt,ly,lu]
  refine tk (i:=8) (h:=?_)
  try simp only [Act.put,lt,ly,lu]
  refine tk (i:=9) (h:=?_)
  try simp only [Act.put,lt,ly,lu]
  refine wpAnyH_done (by kernel_rfl) ?_ _
  clear hHeld
  clear z_t_0 z_t_1 z_t_2 z_t_3 z_t_4 z_t_5 z_wb_0 z_wb_1 z_wb_2 z_wb_3 z_wb_4 z_wb_5 hlt15_t hlt15_wb
  clear hk6 HSZ15
  have y1_6:=hid (bS y1_5.out b6.out)
  have hRs6:=hid (hv_s.out.keep y1_6.out)
  have hRt6:=hid (hv_t.out.keep y1_6.out)
  have hRx6:=hid (hv_x.out.keep y1_6.out)
  have hRy6:=hid (hv_y.out.keep y1_6.out)
  have LRs6:=hid (Ac' L_s.out y1_6.out)
  have LRt6:=hid (Ac' L_t.out y1_6.out)
  have LRx6:=hid (Ac' L_x.out y1_6.out)
  have LRy6:=hid (Ac' L_y.out y1_6.out)
  have HMB6:=hid (Az' hM.out y1_6.out)
  have HTB6:=hid (tab_keep hT.out y1_6.out)
  have HBB6:=hid (bS hB.out y1_6.out)
  clear hv_s hv_t hv_x hv_y L_s L_t L_x L_y hM hT hB b2 b3 b4 b5 b6
  go_wp2_with fail
  refine hG.out _ _ ?_
  rcases Decidable.em (c≤0∧0≤d) with h0 | h0
  · exact Ec' k_a.out k_b.out k_c.out k_d.out hab.out hcd.out h0 hRs6.out LRs6.out hRt6.out LRt6.out hRx6.out LRx6.out hRy6.out LRy6.out HMB6.out HTB6.out HBB6.out
  · exact Fk k_a.out k_b.out k_c.out k_d.out hab.out hcd.out h0 hRs6.out LRs6.out hRt6.out LRt6.out hRx6.out LRx6.out hRy6.out LRy6.out HMB6.out HTB6.out HBB6.out
theorem Fk' {w w1:World} {mx:Int}  {s1 s2 s3 s4:ByteArray} {n:Int} {blk_e:Nat} {blk_f:Nat} {y0 y1 y5 y6 y7 y8 y9 y10 y11 y12 y13 y14 y15 y16 y17 y18 y19 y20 y21 y22 y23 y24 y25 y26 y27 y28 y29 y30 y31 y32 y33 y34 y35 y36 y37 y38 y39 y40 y41 y42 y43 y44 y45 y46 y47 y48 y49 y50 y51 y52 y53 y54 y55 y56 y57 y58 y59 y60 y61 y62 y63 y64 y65 y66 y67 y68 y69 y70 y71 y72 y73 y74 y75 y76 y77 y78 y79 y80 y81 y82 y83 y84 y85 y86 y87 y88 y89 y90 y91 y92 y93 y94 y95 y96 y97 y98 y99 y100 y101 y102 y103 y104 y105 y106 y107 y108 y109 y110 y111 y112 y113 y114 y115 y116 y117 y118 y119 y120 y121 y122 y123 y124 y125 y126 y127 y128 y129 y130 y131 y132 y133 y134 y135 y136 y137 y138 y139 y140 y141 y142 y143 y144 y145 y146 y147 y148 y149 y150 y151 y152 y153 y154 y155 y156 y157 y158 y159 y160 y161 y162 y163 y164 y165 y166 y167 y168 y169 y170 y171 y172 y173 y174 y175 y176 y177 y178 y179 y180 y181 y182 y183 y184 y185 y186 y187 y188 y189 y190 y191 y192:Value}
   (h1:¬ 60<s1.size) (h2:¬ 60<s2.size) (h3:¬ 60<s3.size) (h4:¬ 60<s4.size) (hn:n<0∨64<n∨0≤n∧n≤8)
   (L_e:w1.heap[blk_e]?=some (.cells #[.string s1,.string s2] 46 (0,0))) (L_f:w1.heap[blk_f]?=some (.cells #[.string s3,.string s4] 46 (0,0))) (hM:w1.cell? ⟨1,0,none⟩=some (.int .i64 mx)) (hT:TabAt 0 Lib.deBruijn64tab w1) (hB:Below w.heap.size w w1) :
   (codeAt 2 Tryz.f4).wp Tryz.prog (bodyPost Tryz.prog Tryz.f4 (AM w true)) { tmps:=#[y0,y1,.int .i64 n,.pointer (some ⟨blk_e,0,none⟩),.pointer (some ⟨blk_f,0,none⟩),y5,y6,y7,y8,y9,y10,y11,y12,y13,y14,y15,y16,y17,y18,y19,y20,y21,y22,y23,y24,y25,y26,y27,y28,y29,y30,y31,y32,y33,y34,y35,y36,y37,y38,y39,y40,y41,y42,y43,y44,y45,y46,y47,y48,y49,y50,y51,y52,y53,y54,y55,y56,y57,y58,y59,y60,y61,y62,y63,y64,y65,y66,y67,y68,y69,y70,y71,y72,y73,y74,y75,y76,y77,y78,y79,y80,y81,y82,y83,y84,y85,y86,y87,y88,y89,y90,y91,y92,y93,y94,y95,y96,y97,y98,y99,y100,y101,y102,y103,y104,y105,y106,y107,y108,y109,y110,y111,y112,y113,y114,y115,y116,y117,y118,y119,y120,y121,y122,y123,y124,y125,y126,y127,y128,y129,y130,y131,y132,y133,y134,y135,y136,y137,y138,y139,y140,y141,y142,y143,y144,y145,y146,y147,y148,y149,y150,y151,y152,y153,y154,y155,y156,y157,y158,y159,y160,y161,y162,y163,y164,y165,y166,y167,y168,y169,y170,y171,y172,y173,y174,y175,y176,y177,y178,y179,y180,y181,y182,y183,y184,y185,y186,y187,y188,y189,y190,y191,y192],defers:=[] } w1:=by
 obtain ⟨p,e_p⟩:=eY ((As' s1).1:Rat)
 have k_p:Aa' p≤130:=by rw [←e_p];have:=B0' s1;omega
 have hs1:s1.size≤1048576:=by omega
 obtain ⟨q,e_q⟩:=eY ((As' s2).1:Rat)
 have k_q:Aa' q≤130:=by rw [←e_q];have:=B0' s2;omega
 have hs2:s2.size≤1048576:=by omega
 obtain ⟨r,e_r⟩:=eY ((As' s3).1:Rat)
 have k_r:Aa' r≤130:=by rw [←e_r];have:=B0' s3;omega
 have hs3:s3.size≤1048576:=by omega
 obtain ⟨g,e_g⟩:=eY ((As' s4).1:Rat)
 have k_g:Aa' g≤130:=by rw [←e_g];have:=B0' s4;omega
 have hs4:s4.size≤1048576:=by omega
 obtain ⟨a,e_a⟩:=eY ((if q<p then q else p):Rat)
 obtain ⟨b,e_b⟩:=eY ((if q<p then p else q):Rat)
 obtain ⟨c,e_c⟩:=eY ((if g<r then g else r):Rat)
 obtain ⟨d,e_d⟩:=eY ((if g<r then r else g):Rat)
 have hab:=Fi e_a e_b
 obtain ⟨k_a,k_b⟩:=Ev' e_a e_b k_p k_q
 have hcd:=Fi e_c e_d
 obtain ⟨k_c,k_d⟩:=Ev' e_c e_d k_r k_g
 obtain ⟨ad1,e_ad1⟩:=eY (a+c:Rat)
 obtain ⟨ad2,e_ad2⟩:=eY (b+d:Rat)
 obtain ⟨su1,e_su1⟩:=eY (a - d:Rat)
 obtain ⟨su2,e_su2⟩:=eY (b - c:Rat)
 obtain ⟨mu1,e_mu1⟩:=eY (leastOf (a*c) [a*d,b*c,b*d]:Rat)
 obtain ⟨mu2,e_mu2⟩:=eY (greatestOf (a*c) [a*d,b*c,b*d]:Rat)
 obtain ⟨ng1,e_ng1⟩:=eY (-b:Rat)
 obtain ⟨ng2,e_ng2⟩:=eY (-a:Rat)
 obtain ⟨ab1,e_ab1⟩:=eY (absLo a b:Rat)
 obtain ⟨ab2,e_ab2⟩:=eY (absHi a b:Rat)
 obtain ⟨hu1,e_hu1⟩:=eY (leastOf a [b,c,d]:Rat)
 obtain ⟨hu2,e_hu2⟩:=eY (greatestOf a [b,c,d]:Rat)
 obtain ⟨me1,e_me1⟩:=eY ((if b<c∨d<a then 0 else (if c≤a then a else c)):Rat)
 obtain ⟨me2,e_me2⟩:=eY ((if b<c∨d<a then 0 else (if b≤d then b else d)):Rat)
 obtain ⟨ok,e_ok⟩:=eY (decide (¬ (b<c∨d<a)):Bool)
 have z_ad1:Aa' ad1≤4100:=by
   rw [←e_ad1]
   have:=Vx.D3' a c;omega
 have z_ad2:Aa' ad2≤4100:=by
   rw [←e_ad2]
   have:=Vx.D3' b d;omega
 have z_su1:Aa' su1≤4100:=by
   rw [←e_su1]
   have:=Vx.FH' a d;omega
 have z_su2:Aa' su2≤4100:=by
   rw [←e_su2]
   have:=Vx.FH' b c;omega
 have z_mu1:Aa' mu1≤4100:=by
   rw [←e_mu1]
   exact nT (Cc (Fi' k_a k_b k_c k_d)).1 (by omega)
 have z_mu2:Aa' mu2≤4100:=by
   rw [←e_mu2]
   exact nT (Cc (Fi' k_a k_b k_c k_d)).2 (by omega)
 have z_ng1:Aa' ng1≤4100:=by
   rw [←e_ng1]
   have:=Vx.Bz b;omega
 have z_ng2:Aa' ng2≤4100:=by
   rw [←e_ng2]
   have:=Vx.Bz a;omega
 have z_ab1:Aa' ab1≤4100:=by
   rw [←e_ab1]
   exact nT (Di' (by omega) k_a k_b) (by omega)
 have z_ab2:Aa' ab2≤4100:=by
   rw [←e_ab2]
   exact nT (Dj (by omega) k_a k_b) (by omega)
 have z_hu1:Aa' hu1≤4100:=by
   rw [←e_hu1]
   exact nT (Cc (BN k_a k_b k_c k_d)).1 (by omega)
 have z_hu2:Aa' hu2≤4100:=by
   rw [←e_hu2]
   exact nT (Cc (BN k_a k_b k_c k_d)).2 (by omega)
 have z_me1:Aa' me1≤4100:=by
   rw [←e_me1]
   have:=Br;split
   · omega
   · split <;> omega
 have z_me2:Aa' me2≤4100:=by
   rw [←e_me2]
   have:=Br;split
   · omega
   · split <;> omega
 have z_a:Aa' a≤4100:=by omega
 have m_a:Aa' a≤16777216:=by omega
 have n_a:Aa' a≤4000000:=by omega
 have z_b:Aa' b≤4100:=by omega
 have m_b:Aa' b≤16777216:=by omega
 have n_b:Aa' b≤4000000:=by omega
 have z_c:Aa' c≤4100:=by omega
 have m_c:Aa' c≤16777216:=by omega
 have n_c:Aa' c≤4000000:=by omega
 have z_d:Aa' d≤4100:=by omega
 have m_d:Aa' d≤16777216:=by omega
 have n_d:Aa' d≤4000000:=by omega
 clear k_p k_q k_r k_g h1 h2 h3 h4
 replace hs1:=hid hs1
 replace hs2:=hid hs2
 replace hs3:=hid hs3
 replace hs4:=hid hs4
 replace hab:=hid hab
 replace hcd:=hid hcd
 replace e_ok:=hid e_ok
 replace hn:=hid hn
 replace e_p:=hid e_p
 replace e_q:=hid e_q
 replace e_r:=hid e_r
 replace e_g:=hid e_g
 replace e_a:=hid e_a
 replace e_b:=hid e_b
 replace e_c:=hid e_c
 replace e_d:=hid e_d
 replace e_ad1:=hid e_ad1
 replace e_ad2:=hid e_ad2
 replace e_su1:=hid e_su1
 replace e_su2:=hid e_su2
 replace e_mu1:=hid e_mu1
 replace e_mu2:=hid e_mu2
 replace e_ng1:=hid e_ng1
 replace e_ng2:=hid e_ng2
 replace e_ab1:=hid e_ab1
 replace e_ab2:=hid e_ab2
 replace e_hu1:=hid e_hu1
 replace e_hu2:=hid e_hu2
 replace e_me1:=hid e_me1
 replace e_me2:=hid e_me2
 replace z_ad1:=hid z_ad1
 replace z_ad2:=hid z_ad2
 replace z_su1:=hid z_su1
 replace z_su2:=hid z_su2
 replace z_mu1:=hid z_mu1
 replace z_mu2:=hid z_mu2
 replace z_ng1:=hid z_ng1
 replace z_ng2:=hid z_ng2
 replace z_ab1:=hid z_ab1
 replace z_ab2:=hid z_ab2
 replace z_hu1:=hid z_hu1
 replace z_hu2:=hid z_hu2
 replace z_me1:=hid z_me1
 replace z_me2:=hid z_me2
 replace z_a:=hid z_a
 replace z_b:=hid z_b
 replace z_c:=hid z_c
 replace z_d:=hid z_d
 replace m_a:=hid m_a
 replace m_b:=hid m_b
 replace m_c:=hid m_c
 replace m_d:=hid m_d
 replace n_a:=hid n_a
 replace n_b:=hid n_b
 replace n_c:=hid n_c
 replace n_d:=hid n_d
 replace k_a:=hid k_a
 replace k_b:=hid k_b
 replace k_c:=hid k_c
 replace k_d:=hid k_d
 replace L_e:=hid L_e
 replace L_f:=hid L_f
 replace hM:=hid hM
 replace hT:=hid hT
 replace hB:=hid hB
 show Code.wp _ (Code.seq _ _) _ _ _
 go_upto_region 3 with fail
 have hg:w1.heap[blk_e]?=some (.cells #[.string s1,.string s2] 46 (0,0)):=((Below.refl _ w1).block _ (gE.1 L_e.out).1).trans L_e.out
 have z_e_0:w1.cell? ⟨blk_e,0,none⟩=some (.string s1):=cR _ _ _ _ _ _ hg
 have z_e_1:w1.cell? ⟨blk_e,1,none⟩=some (.string s2):=cR _ _ _ _ _ _ hg
 clear hg
 have HX:=hid (Ev e_p.out e_q.out e_a.out e_b.out hs1.out hs2.out (Az' hM.out (Below.refl _ w1)))
 go_wp2_with fail
 refine (HX.out).mono ?_
 rintro e w2 ⟨va2,vb2,rfl,ha2,hb2,b2⟩
 obtain ⟨C1,j1,C2,j2,C3,j3,C4,j4,rfl,-,-,-,-⟩:=id ha2.opened
 replace ha2:=hid ha2
 obtain ⟨C5,j5,C6,j6,C7,j7,C8,j8,rfl,-,-,-,-⟩:=id hb2.opened
 replace hb2:=hid hb2
 replace b2:=hid b2
 clear HX
 clear z_e_0 z_e_1
 go_upto_region 4 with fail
 obtain ⟨w3,hw3⟩:=eX ((w2.alloc (.cells #[.bool (decide (a.num<0)),.slice C1 (Vx.len a.num.natAbs) j1,.slice C2 (Vx.len (below a.den)) j2,.bool (decide (b.num<0)),.slice C3 (Vx.len b.num.natAbs) j3,.slice C4 (Vx.len (below b.den)) j4] 48)).alloc (.cells #[.bool (decide (a.num<0)),.slice C5 (len a.num.natAbs) j5,.slice C6 (len a.den) j6,.bool (decide (b.num<0)),.slice C7 (len b.num.natAbs) j7,.slice C8 (len b.den) j8] 50))
 obtain ⟨b3,L3,M3⟩:=Ih' hw3
 rw [←hw3]
 clear hw3
 replace b3:=hid b3
 replace L3:=hid L3
 replace M3:=hid M3
 have y1_3:=hid (bS b2.out b3.out)
 have hg:w3.heap[blk_f]?=some (.cells #[.string s3,.string s4] 46 (0,0)):=(y1_3.out.block _ (gE.1 L_f.out).1).trans L_f.out
 have z_f_0:w3.cell? ⟨blk_f,0,none⟩=some (.string s3):=cR _ _ _ _ _ _ hg
 have z_f_1:w3.cell? ⟨blk_f,1,none⟩=some (.string s4):=cR _ _ _ _ _ _ hg
 clear hg
 have HX:=hid (Ev e_r.out e_g.out e_c.out e_d.out hs3.out hs4.out (Az' hM.out y1_3.out))
 go_wp2_with fail
 refine (HX.out).mono ?_
 rintro e w4 ⟨va4,vb4,rfl,ha4,hb4,b4⟩
 obtain ⟨C9,j9,C10,j10,C11,j11,C12,j12,rfl,-,-,-,-⟩:=id ha4.opened
 replace ha4:=hid ha4
 obtain ⟨C13,j13,C14,j14,C15,j15,C16,j16,rfl,-,-,-,-⟩:=id hb4.opened
 replace hb4:=hid hb4
 replace b4:=hid b4
 clear HX
 clear z_f_0 z_f_1
 go_upto_region 5 with fail
 obtain ⟨w5,hw5⟩:=eX ((w4.alloc (.cells #[.bool (decide (c.num<0)),.slice C9 (Vx.len c.num.natAbs) j9,.slice C10 (Vx.len (below c.den)) j10,.bool (decide (d.num<0)),.slice C11 (Vx.len d.num.natAbs) j11,.slice C12 (Vx.len (below d.den)) j12] 48)).alloc (.cells #[.bool (decide (c.num<0)),.slice C13 (len c.num.natAbs) j13,.slice C14 (len c.den) j14,.bool (decide (d.num<0)),.slice C15 (len d.num.natAbs) j15,.slice C16 (len d.den) j16] 50))
 obtain ⟨b5,L5,M5⟩:=Ih' hw5
 rw [←hw5]
 clear hw5
 replace b5:=hid b5
 replace L5:=hid L5
 replace M5:=hid M5
 have y2_5:=hid (bS (bS b3.out b4.out) b5.out)
 have hRs5:=hid (ha2.out.keep y2_5.out)
 have hRt5:=hid (hb2.out.keep y2_5.out)
 have hRx5:=hid (ha4.out.keep b5.out)
 have hRy5:=hid (hb4.out.keep b5.out)
 have y3_5:=hid (bS b4.out b5.out)
 have LRs5:=hid (Ac' L3.out y3_5.out)
 have LRt5:=hid (Ac' M3.out y3_5.out)
 have y1_5:=hid (bS (bS y1_3.out b4.out) b5.out)
 have HMB5:=hid (Az' hM.out y1_5.out)
 have HTB5:=hid (tab_keep hT.out y1_5.out)
 have HBB5:=hid (bS hB.out y1_5.out)
 clear ha2 hb2 ha4 hb4 L3 M3 hM hT hB b2 b3 b4 b5
 go_wp2_with fail
 obtain ⟨NN5,hNN⟩:=eY (w5.heap.size:Nat)
 have HSZ5:Hid (w5.heap.size=NN5):=hNN
 obtain ⟨z_s_0,z_s_1,z_s_2,z_s_3,z_s_4,z_s_5⟩:=Ad' LRs5.out
 have hlt5_s:w2.heap.size<NN5:=Nat.lt_of_lt_of_eq (bL _ _ z_s_0) hNN
 obtain ⟨z_t_0,z_t_1,z_t_2,z_t_3,z_t_4,z_t_5⟩:=Ad' LRt5.out
 have hlt5_t:w2.heap.size+1<NN5:=Nat.lt_of_lt_of_eq (bL _ _ z_t_0) hNN
 obtain ⟨z_x_0,z_x_1,z_x_2,z_x_3,z_x_4,z_x_5⟩:=Ad' L5.out
 have hlt5_x:w4.heap.size<NN5:=Nat.lt_of_lt_of_eq (bL _ _ z_x_0) hNN
 obtain ⟨z_y_0,z_y_1,z_y_2,z_y_3,z_y_4,z_y_5⟩:=Ad' M5.out
 have hlt5_y:w4.heap.size+1<NN5:=Nat.lt_of_lt_of_eq (bL _ _ z_y_0) hNN
 have H0:=Ae'.start w5 NN5
 have H0':=H0
 unfold Ae' at H0'
 refine wp_region_held_drew (S:=(fun w'=>(∀ b o,b<NN5→w'.cell? ⟨b,o,none⟩=w5.cell? ⟨b,o,none⟩)∧Below (NN5) w5 w'∧Ag' w5 w')) (by kernel_rfl) ?_ (fun hHeld=>?_)
 · (try dsimp only)
   exact H0'
 obtain ⟨w6,hw6⟩:=eX w5.drew
 have b6:Hid (Below w5.heap.size w5 w6):=by rw [hw6];exact ⟨rfl,rfl,rfl,nL _,fun _ _=>rfl⟩
 rw [←hw6] at hHeld H0 ⊢
 clear hw6 H0' hNN
 as_aux_lemma =>
  refine tk (i:=0) (h:=?_)
  try simp only [Act.put,lt,ly,lu]
  refine tk (i:=1) (h:=?_)
  try simp only [Act.put,lt,ly,lu]
  refine tk (i:=3) (h:=?_)
  try simp only [Act.put,lt,ly,lu]
  refine tk (i:=4) (h:=?_)
  try simp only [Act.put,lt,ly,lu]
  refine rd (i:=2) (h:=fun K hK=>?_);go_simp;go_at_call 17
  refine (Gp' e_ad1.out e_ad2.out (hRs5.out.keep b6.out) (hRx5.out.keep b6.out) z_a.out z_b.out z_c.out z_d.out).mono ?_
  rintro e w7 ⟨v7,rfl,hv7,b7⟩
  obtain ⟨C17,j17,C18,j18,C19,j19,C20,j20,rfl,-,-,-,-⟩:=id hv7.opened
  replace hv7:=hid hv7
  replace b7:=hid b7
  have hk7:=AN' H0 HSZ5 b7.out;clear hHeld H0
  refine hK.out _ _ (by (try dsimp only);with_reducible exact hun hk7) (fun hHeld=>?_)
  clear hK K;try simp only [Act.put,lt,ly,lu]
  have y5_7:=hid (bS b6.out b7.out)
  refine rd (i:=5) (h:=fun K hK=>?_);go_simp;go_at_call 18
  refine (Dw' e_ad1.out e_ad2.out (hRt5.out.keep y5_7.out) (hRy5.out.keep y5_7.out) m_a.out m_b.out m_c.out m_d.out).mono ?_
  rintro e w8 ⟨v8,rfl,hv8,b8⟩
  obtain ⟨C21,j21,C22,j22,C23,j23,C24,j24,rfl,-,-,-,-⟩:=id hv8.opened
  replace hv8:=hid hv8
  replace b8:=hid b8
  have hk8:=AN' hk7 HSZ5 b8.out;clear hHeld hk7
  refine hK.out _ _ (by (try dsimp only);with_reducible exact hun hk8) (fun hHeld=>?_)
  clear hK K;try simp only [Act.put,lt,ly,lu]
  have y5_8:=hid (bS y5_7.out b8.out)
  refine rd (i:=6) (h:=fun K hK=>?_);go_simp;go_at_call 16
  refine (A2' (hv7.out.keep b8.out) hv8.out z_ad1.out z_ad2.out (tab_keep HTB5.out y5_8.out)).mono ?_
  rintro e w9 ⟨rfl,b9⟩
  replace b9:=hid b9
  have hk9:=AN' hk8 HSZ5 b9.out;clear hHeld hk8
  refine hK.out _ _ (by (try dsimp only);with_reducible exact hun hk9) (fun hHeld=>?_)
  clear hK K;try simp only [Act.put,lt,ly,lu]
  refine tk (i:=7) (h:=?_)
  try simp only [Act.put,lt,ly,lu]
  refine tk (i:=8) (h:=?_)
  try simp only [Act.put,lt,ly,lu]
  refine tk (i:=9) (h:=?_)
  try simp only [Act.put,lt,ly,lu]
  refine tk (i:=10) (h:=?_)
  try simp only [Act.put,lt,ly,lu]
  refine tk (i:=12) (h:=?_)
  try simp only [Act.put,lt,ly,lu]
  as_aux_lemma =>
   refine tk (i:=13) (h:=?_)
   try simp only [Act.put,lt,ly,lu]
   have y5_9:=hid (bS y5_8.out b9.out)
   refine rd (i:=11) (h:=fun K hK=>?_);go_simp;go_at_call 19
   refine (Gq e_su1.out e_su2.out (hRs5.out.keep y5_9.out) (hRx5.out.keep y5_9.out) z_a.out z_b.out z_c.out z_d.out).mono ?_
   rintro e w10 ⟨v10,rfl,hv10,b10⟩
   obtain ⟨C25,j25,C26,j26,C27,j27,C28,j28,rfl,-,-,-,-⟩:=id hv10.opened
   replace hv10:=hid hv10
   replace b10:=hid b10
   have hk10:=AN' hk9 HSZ5 b10.out;clear hHeld hk9
   refine hK.out _ _ (by (try dsimp only);with_reducible exact hun hk10) (fun hHeld=>?_)
   clear hK K;try simp only [Act.put,lt,ly,lu]
   have y5_10:=hid (bS y5_9.out b10.out)
   refine rd (i:=14) (h:=fun K hK=>?_);go_simp;go_at_call 20
   refine (Fx' e_su1.out e_su2.out (hRt5.out.keep y5_10.out) (hRy5.out.keep y5_10.out) m_a.out m_b.out m_c.out m_d.out).mono ?_
   rintro e w11 ⟨v11,rfl,hv11,b11⟩
   obtain ⟨C29,j29,C30,j30,C31,j31,C32,j32,rfl,-,-,-,-⟩:=id hv11.opened
   replace hv11:=hid hv11
   replace b11:=hid b11
   have hk11:=AN' hk10 HSZ5 b11.out;clear hHeld hk10
   refine hK.out _ _ (by (try dsimp only);with_reducible exact hun hk11) (fun hHeld=>?_)
   clear hK K;try simp only [Act.put,lt,ly,lu]
   have y5_11:=hid (bS y5_10.out b11.out)
   refine rd (i:=15) (h:=fun K hK=>?_);go_simp;go_at_call 16
   refine (A2' (hv10.out.keep b11.out) hv11.out z_su1.out z_su2.out (tab_keep HTB5.out y5_11.out)).mono ?_
   rintro e w12 ⟨rfl,b12⟩
   replace b12:=hid b12
   have hk12:=AN' hk11 HSZ5 b12.out;clear hHeld hk11
   refine hK.out _ _ (by (try dsimp only);with_reducible exact hun hk12) (fun hHeld=>?_)
   clear hK K;try simp only [Act.put,lt,ly,lu]
   refine tk (i:=16) (h:=?_)
   try simp only [Act.put,lt,ly,lu]
   refine tk (i:=17) (h:=?_)
   try simp only [Act.put,lt,ly,lu]
   refine tk (i:=18) (h:=?_)
   try simp only [Act.put,lt,ly,lu]
   refine tk (i:=19) (h:=?_)
   try simp only [Act.put,lt,ly,lu]
   refine tk (i:=20) (h:=?_)
   try simp only [Act.put,lt,ly,lu]
   refine tk (i:=22) (h:=?_)
   try simp only [Act.put,lt,ly,lu]
   refine tk (i:=23) (h:=?_)
   try simp only [Act.put,lt,ly,lu]
   have y5_12:=hid (bS y5_11.out b12.out)
   refine rd (i:=21) (h:=fun K hK=>?_);go_simp;go_at_call 21
   refine (Gq' e_mu1.out e_mu2.out (hRs5.out.keep y5_12.out) (hRx5.out.keep y5_12.out) z_a.out z_b.out z_c.out z_d.out).mono ?_
   rintro e w13 ⟨v13,rfl,hv13,b13⟩
   obtain ⟨C33,j33,C34,j34,C35,j35,C36,j36,rfl,-,-,-,-⟩:=id hv13.opened
   replace hv13:=hid hv13
   replace b13:=hid b13
   have hk13:=AN' hk12 HSZ5 b13.out;clear hHeld hk12
   refine hK.out _ _ (by (try dsimp only);with_reducible exact hun hk13) (fun hHeld=>?_)
   clear hK K;try simp only [Act.put,lt,ly,lu]
   as_aux_lemma =>
    have y5_13:=hid (bS y5_12.out b13.out)
    refine rd (i:=24) (h:=fun K hK=>?_);go_simp;go_at_call 22
    refine (Fy' e_mu1.out e_mu2.out (hRt5.out.keep y5_13.out) (hRy5.out.keep y5_13.out) n_a.out n_b.out n_c.out n_d.out).mono ?_
    rintro e w14 ⟨v14,rfl,hv14,b14⟩
    obtain ⟨C37,j37,C38,j38,C39,j39,C40,j40,rfl,-,-,-,-⟩:=id hv14.opened
    replace hv14:=hid hv14
    replace b14:=hid b14
    have hk14:=AN' hk13 HSZ5 b14.out;clear hHeld hk13
    refine hK.out _ _ (by (try dsimp only);with_reducible exact hun hk14) (fun hHeld=>?_)
    clear hK K;try simp only [Act.put,lt,ly,lu]
    have y5_14:=hid (bS y5_13.out b14.out)
    refine rd (i:=25) (h:=fun K hK=>?_);go_simp;go_at_call 16
    refine (A2' (hv13.out.keep b14.out) hv14.out z_mu1.out z_mu2.out (tab_keep HTB5.out y5_14.out)).mono ?_
    rintro e w15 ⟨rfl,b15⟩
    replace b15:=hid b15
    have hk15:=AN' hk14 HSZ5 b15.out;clear hHeld hk14
    refine hK.out _ _ (by (try dsimp only);with_reducible exact hun hk15) (fun hHeld=>?_)
    clear hK K;try simp only [Act.put,lt,ly,lu]
    refine tk (i:=26) (h:=?_)
    try simp only [Act.put,lt,ly,lu]
    refine tk (i:=27) (h:=?_)
    try simp only [Act.put,lt,ly,lu]
    refine tk (i:=28) (h:=?_)
    try simp only [Act.put,lt,ly,lu]
    refine tk (i:=29) (h:=?_)
    try simp only [Act.put,lt,ly,lu]
    refine tk (i:=31) (h:=?_)
    try simp only [Act.put,lt,ly,lu]
    have y5_15:=hid (bS y5_14.out b15.out)
    refine rd (i:=30) (h:=fun K hK=>?_);go_simp;go_at_call 23
    refine (Gr e_ng1.out e_ng2.out (hRs5.out.keep y5_15.out) z_a.out z_b.out).mono ?_
    rintro e w16 ⟨v16,rfl,hv16,b16⟩
    obtain ⟨C41,j41,C42,j42,C43,j43,C44,j44,rfl,-,-,-,-⟩:=id hv16.opened
    replace hv16:=hid hv16
    replace b16:=hid b16
    have hk16:=AN' hk15 HSZ5 b16.out;clear hHeld hk15
    refine hK.out _ _ (by (try dsimp only);with_reducible exact hun hk16) (fun hHeld=>?_)
    clear hK K;try simp only [Act.put,lt,ly,lu]
    have y5_16:=hid (bS y5_15.out b16.out)
    refine rd (i:=32) (h:=fun K hK=>?_);go_simp;go_at_call 24
    refine (Dx e_ng1.out e_ng2.out (hRt5.out.keep y5_16.out) ).mono ?_
    rintro e w17 ⟨v17,rfl,hv17,b17⟩
    obtain ⟨C45,j45,C46,j46,C47,j47,C48,j48,rfl,-,-,-,-⟩:=id hv17.opened
    replace hv17:=hid hv17
    replace b17:=hid b17
    have hk17:=AN' hk16 HSZ5 b17.out;clear hHeld hk16
    refine hK.out _ _ (by (try dsimp only);with_reducible exact hun hk17) (fun hHeld=>?_)
    clear hK K;try simp only [Act.put,lt,ly,lu]
    have y5_17:=hid (bS y5_16.out b17.out)
    refine rd (i:=33) (h:=fun K hK=>?_);go_simp;go_at_call 16
    refine (A2' (hv16.out.keep b17.out) hv17.out z_ng1.out z_ng2.out (tab_keep HTB5.out y5_17.out)).mono ?_
    rintro e w18 ⟨rfl,b18⟩
    replace b18:=hid b18
    have hk18:=AN' hk17 HSZ5 b18.out;clear hHeld hk17
    refine hK.out _ _ (by (try dsimp only);with_reducible exact hun hk18) (fun hHeld=>?_)
    clear hK K;try simp only [Act.put,lt,ly,lu]
    refine tk (i:=34) (h:=?_)
    try simp only [Act.put,lt,ly,lu]
    refine tk (i:=35) (h:=?_)
    try simp only [Act.put,lt,ly,lu]
    as_aux_lemma =>
     refine tk (i:=36) (h:=?_)
     try simp only [Act.put,lt,ly,lu]
     refine tk (i:=37) (h:=?_)
     try simp only [Act.put,lt,ly,lu]
     refine tk (i:=39) (h:=?_)
     try simp only [Act.put,lt,ly,lu]
     have y5_18:=hid (bS y5_17.out b18.out)
     refine rd (i:=38) (h:=fun K hK=>?_);go_simp;go_at_call 25
     refine (Gr' e_ab1.out e_ab2.out (hRs5.out.keep y5_18.out) z_a.out z_b.out).mono ?_
     rintro e w19 ⟨v19,rfl,hv19,b19⟩
     obtain ⟨C49,j49,C50,j50,C51,j51,C52,j52,rfl,-,-,-,-⟩:=id hv19.opened
     replace hv19:=hid hv19
     replace b19:=hid b19
     have hk19:=AN' hk18 HSZ5 b19.out;clear hHeld hk18
     refine hK.out _ _ (by (try dsimp only);with_reducible exact hun hk19) (fun hHeld=>?_)
     clear hK K;try simp only [Act.put,lt,ly,lu]
     have y5_19:=hid (bS y5_18.out b19.out)
     refine rd (i:=40) (h:=fun K hK=>?_);go_simp;go_at_call 26
     refine (FD' e_ab1.out e_ab2.out (hRt5.out.keep y5_19.out) z_a.out z_b.out).mono ?_
     rintro e w20 ⟨v20,rfl,hv20,b20⟩
     obtain ⟨C53,j53,C54,j54,C55,j55,C56,j56,rfl,-,-,-,-⟩:=id hv20.opened
     replace hv20:=hid hv20
     replace b20:=hid b20
     have hk20:=AN' hk19 HSZ5 b20.out;clear hHeld hk19
     refine hK.out _ _ (by (try dsimp only);with_reducible exact hun hk20) (fun hHeld=>?_)
     clear hK K;try simp only [Act.put,lt,ly,lu]
     have y5_20:=hid (bS y5_19.out b20.out)
     refine rd (i:=41) (h:=fun K hK=>?_);go_simp;go_at_call 16
     refine (A2' (hv19.out.keep b20.out) hv20.out z_ab1.out z_ab2.out (tab_keep HTB5.out y5_20.out)).mono ?_
     rintro e w21 ⟨rfl,b21⟩
     replace b21:=hid b21
     have hk21:=AN' hk20 HSZ5 b21.out;clear hHeld hk20
     refine hK.out _ _ (by (try dsimp only);with_reducible exact hun hk21) (fun hHeld=>?_)
     clear hK K;try simp only [Act.put,lt,ly,lu]
     refine tk (i:=42) (h:=?_)
     try simp only [Act.put,lt,ly,lu]
     refine tk (i:=43) (h:=?_)
     try simp only [Act.put,lt,ly,lu]
     refine tk (i:=44) (h:=?_)
     try simp only [Act.put,lt,ly,lu]
     refine tk (i:=45) (h:=?_)
     try simp only [Act.put,lt,ly,lu]
     refine tk (i:=46) (h:=?_)
     try simp only [Act.put,lt,ly,lu]
     refine tk (i:=48) (h:=?_)
     try simp only [Act.put,lt,ly,lu]
     as_aux_lemma =>
      refine tk (i:=49) (h:=?_)
      try simp only [Act.put,lt,ly,lu]
      have y5_21:=hid (bS y5_20.out b21.out)
      refine rd (i:=47) (h:=fun K hK=>?_);go_simp;go_at_call 27
      refine (FD e_hu1.out e_hu2.out (hRs5.out.keep y5_21.out) (hRx5.out.keep y5_21.out) z_a.out z_b.out z_c.out z_d.out).mono ?_
      rintro e w22 ⟨v22,rfl,hv22,b22⟩
      obtain ⟨C57,j57,C58,j58,C59,j59,C60,j60,rfl,-,-,-,-⟩:=id hv22.opened
      replace hv22:=hid hv22
      replace b22:=hid b22
      have hk22:=AN' hk21 HSZ5 b22.out;clear hHeld hk21
      refine hK.out _ _ (by (try dsimp only);with_reducible exact hun hk22) (fun hHeld=>?_)
      clear hK K;try simp only [Act.put,lt,ly,lu]
      have y5_22:=hid (bS y5_21.out b22.out)
      refine rd (i:=50) (h:=fun K hK=>?_);go_simp;go_at_call 28
      refine (Fh hab.out hcd.out e_hu1.out e_hu2.out (hRt5.out.keep y5_22.out) (hRy5.out.keep y5_22.out) z_a.out z_b.out z_c.out z_d.out).mono ?_
      rintro e w23 ⟨v23,rfl,hv23,b23⟩
      obtain ⟨C61,j61,C62,j62,C63,j63,C64,j64,rfl,-,-,-,-⟩:=id hv23.opened
      replace hv23:=hid hv23
      replace b23:=hid b23
      have hk23:=AN' hk22 HSZ5 b23.out;clear hHeld hk22
      refine hK.out _ _ (by (try dsimp only);with_reducible exact hun hk23) (fun hHeld=>?_)
      clear hK K;try simp only [Act.put,lt,ly,lu]
      have y5_23:=hid (bS y5_22.out b23.out)
      refine rd (i:=51) (h:=fun K hK=>?_);go_simp;go_at_call 16
      refine (A2' (hv22.out.keep b23.out) hv23.out z_hu1.out z_hu2.out (tab_keep HTB5.out y5_23.out)).mono ?_
      rintro e w24 ⟨rfl,b24⟩
      replace b24:=hid b24
      have hk24:=AN' hk23 HSZ5 b24.out;clear hHeld hk23
      refine hK.out _ _ (by (try dsimp only);with_reducible exact hun hk24) (fun hHeld=>?_)
      clear hK K;try simp only [Act.put,lt,ly,lu]
      refine tk (i:=52) (h:=?_)
      try simp only [Act.put,lt,ly,lu]
      refine tk (i:=53) (h:=?_)
      try simp only [Act.put,lt,ly,lu]
      refine wpAnyH_done (by kernel_rfl) ?_ _
      clear hHeld
      clear z_s_0 z_s_1 z_s_2 z_s_3 z_s_4 z_s_5 z_t_0 z_t_1 z_t_2 z_t_3 z_t_4 z_t_5 z_x_0 z_x_1 z_x_2 z_x_3 z_x_4 z_x_5 z_y_0 z_y_1 z_y_2 z_y_3 z_y_4 z_y_5 hlt5_s hlt5_t hlt5_x hlt5_y
      clear hk24 HSZ5
      have y5_24:=hid (bS y5_23.out b24.out)
      have hRs24:=hid (hRs5.out.keep y5_24.out)
      have hRt24:=hid (hRt5.out.keep y5_24.out)
      have hRx24:=hid (hRx5.out.keep y5_24.out)
      have hRy24:=hid (hRy5.out.keep y5_24.out)
      have LRs24:=hid (Ac' LRs5.out y5_24.out)
      have LRt24:=hid (Ac' LRt5.out y5_24.out)
      have LRx24:=hid (Ac' L5.out y5_24.out)
      have LRy24:=hid (Ac' M5.out y5_24.out)
      have HMB24:=hid (Az' HMB5.out y5_24.out)
      have HTB24:=hid (tab_keep HTB5.out y5_24.out)
      have HBB24:=hid (bS HBB5.out y5_24.out)
      clear hRs5 hRt5 hRx5 hRy5 LRs5 LRt5 L5 M5 HMB5 HTB5 HBB5 b6 b7 b8 b9 b10 b11 b12 b13 b14 b15 b16 b17 b18 b19 b20 b21 b22 b23 b24
      go_upto_region 7 with fail
      obtain ⟨z_s_0,z_s_1,z_s_2,z_s_3,z_s_4,z_s_5⟩:=Ad' LRs24.out
      obtain ⟨z_x_0,z_x_1,z_x_2,z_x_3,z_x_4,z_x_5⟩:=Ad' LRx24.out
      have HX:=hid (FF hab.out hcd.out e_me1.out e_me2.out e_ok.out hRs24.out hRx24.out z_a.out z_b.out z_c.out z_d.out)
      go_wp2_with fail
      refine (HX.out).mono ?_
      rintro e w25 ⟨v25,rfl,hv25,b25⟩
      obtain ⟨C65,j65,C66,j66,C67,j67,C68,j68,rfl,-,-,-,-⟩:=id hv25.opened
      replace hv25:=hid hv25
      replace b25:=hid b25
      clear HX
      clear z_s_0 z_s_1 z_s_2 z_s_3 z_s_4 z_s_5 z_x_0 z_x_1 z_x_2 z_x_3 z_x_4 z_x_5
      go_upto_region 8 with fail
      obtain ⟨w26,hw26⟩:=eX (w25.alloc (.cells #[.bool (decide (me1.num<0)),.slice C65 (Vx.len me1.num.natAbs) j65,.slice C66 (Vx.len (below me1.den)) j66,.bool (decide (me2.num<0)),.slice C67 (Vx.len me2.num.natAbs) j67,.slice C68 (Vx.len (below me2.den)) j68] 48))
      have b26:=hid (BE hw26)
      have L26:=hid (Bh hw26)
      rw [←hw26]
      clear hw26
      have y24_26:=hid (bS b25.out b26.out)
      obtain ⟨z_t_0,z_t_1,z_t_2,z_t_3,z_t_4,z_t_5⟩:=Ad' (Ac' LRt24.out y24_26.out)
      obtain ⟨z_y_0,z_y_1,z_y_2,z_y_3,z_y_4,z_y_5⟩:=Ad' (Ac' LRy24.out y24_26.out)
      have HX:=hid (Fh' hab.out hcd.out e_me1.out e_me2.out e_ok.out (hRt24.out.keep y24_26.out) (hRy24.out.keep y24_26.out) z_a.out z_b.out z_c.out z_d.out)
      go_wp2_with fail
      refine (HX.out).mono ?_
      rintro e w27 ⟨v27,rfl,hv27,b27⟩
      obtain ⟨C69,j69,C70,j70,C71,j71,C72,j72,rfl,-,-,-,-⟩:=id hv27.opened
      replace hv27:=hid hv27
      replace b27:=hid b27
      clear HX
      clear z_t_0 z_t_1 z_t_2 z_t_3 z_t_4 z_t_5 z_y_0 z_y_1 z_y_2 z_y_3 z_y_4 z_y_5
      go_upto_region 9 with fail
      obtain ⟨w28,hw28⟩:=eX (w27.alloc (.cells #[.bool (decide (me1.num<0)),.slice C69 (len me1.num.natAbs) j69,.slice C70 (len me1.den) j70,.bool (decide (me2.num<0)),.slice C71 (len me2.num.natAbs) j71,.slice C72 (len me2.den) j72] 50))
      have b28:=hid (BE hw28)
      have L28:=hid (Bh hw28)
      rw [←hw28]
      clear hw28
      rename_i G hG Gb hGb
      replace hG:=hid hG
      have y26_28:=hid (bS b27.out b28.out)
      obtain ⟨z_mb_0,z_mb_1,z_mb_2,z_mb_3,z_mb_4,z_mb_5⟩:=Ad' (Ac' L26.out y26_28.out)
      obtain ⟨z_nb_0,z_nb_1,z_nb_2,z_nb_3,z_nb_4,z_nb_5⟩:=Ad' L28.out
      have y25_28:=hid (bS (bS b26.out b27.out) b28.out)
      have y24_28:=hid (bS (bS y24_26.out b27.out) b28.out)
      have HX:=hid (A2' (hv25.out.keep y25_28.out) (hv27.out.keep b28.out) z_me1.out z_me2.out (tab_keep HTB24.out y24_28.out))
      go_wp2_with fail
      refine (HX.out).mono ?_
      rintro e w29 ⟨rfl,b29⟩
      replace b29:=hid b29
      clear HX
      clear z_mb_0 z_mb_1 z_mb_2 z_mb_3 z_mb_4 z_mb_5 z_nb_0 z_nb_1 z_nb_2 z_nb_3 z_nb_4 z_nb_5
      have y24_29:=hid (bS y24_28.out b29.out)
      have hRs29:=hid (hRs24.out.keep y24_29.out)
      have hRt29:=hid (hRt24.out.keep y24_29.out)
      have hRx29:=hid (hRx24.out.keep y24_29.out)
      have hRy29:=hid (hRy24.out.keep y24_29.out)
      have LRs29:=hid (Ac' LRs24.out y24_29.out)
      have LRt29:=hid (Ac' LRt24.out y24_29.out)
      have LRx29:=hid (Ac' LRx24.out y24_29.out)
      have LRy29:=hid (Ac' LRy24.out y24_29.out)
      have HMB29:=hid (Az' HMB24.out y24_29.out)
      have HTB29:=hid (tab_keep HTB24.out y24_29.out)
      have HBB29:=hid (bS HBB24.out y24_29.out)
      clear hRs24 hRt24 hRx24 hRy24 LRs24 LRt24 LRx24 LRy24 HMB24 HTB24 HBB24 b25 b26 b27 b28 b29
      go_wp2_with fail
      refine hG.out _ _ ?_
      rcases hn.out with h0 | h0 | ⟨h0,h1⟩
      · exact IW k_a.out k_b.out k_c.out k_d.out hab.out hcd.out h0 hRs29.out LRs29.out hRt29.out LRt29.out hRx29.out LRx29.out hRy29.out LRy29.out HMB29.out HTB29.out HBB29.out
      · exact IG' k_a.out k_b.out k_c.out k_d.out hab.out hcd.out h0 hRs29.out LRs29.out hRt29.out LRt29.out hRx29.out LRx29.out hRy29.out LRy29.out HMB29.out HTB29.out HBB29.out
      · obtain ⟨k,rfl⟩:∃ k:Nat,n=(k:Int):=⟨n.toNat,by omega⟩
        exact bx_in k_a.out k_b.out k_c.out k_d.out hab.out hcd.out (by omega) hRs29.out LRs29.out hRt29.out LRt29.out hRx29.out LRx29.out hRy29.out LRy29.out HMB29.out HTB29.out HBB29.out
end Go.Proofs.YtlcimajjnfbidaaGreatDoor.Rf
