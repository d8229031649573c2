/-
  Contracts of the functions that the law calls, for every input (Wh).
-/
import Derived.Test.YtbigkkjnhcpgiaaGreatDoorQ00
import Derived.Test.YtbigkkjnhcpgiaaGreatDoorQ46
set_option linter.all false
set_option maxRecDepth 100000
set_option maxHeartbeats 40000000
namespace Go.Proofs.YtbigkkjnhcpgiaaGreatDoor.Rf
open Lib (hid)
open Go.RowKit
open Rx
open Vx (Aa' Al' Am)
open List renaming getElem?_toArray → lg, getElem?_cons_zero → lz, getElem?_cons_succ → ls, setIfInBounds_toArray → lt, set_cons_zero → ly, set_cons_succ → lu
theorem Fr' {w wa:World} {mx:Int} {g2 bp bv:Nat} {P1 P2 P3 P4 V1 V2 V3 V4:Option Addr} {r1 r2 r3 r4 v1 v2 v3 v4:Nat} {a b x y:Rat} {L:List Rat} {ad:Option Addr} {n m c k2:Nat} {f:Int} {Bp:Nat} {y1 y3 y4 y5 y6 y7 y9 y10 y11 y17 y18 y19 y20 y21 y22 y23 y24 y25 y26 y27 y28 y29 y30 y31 y32 y33 y34 y35 y36 y37 y38 y39 y40 y41 y42 y43 y44 y45 y46 y47 y48 y49 y50 y51 y52 y53 y54 y55 y56 y57 y58 y59 y60 y61 y62 y63 y64 y65 y66 y67 y68 y69 y70 y71 y72 y73 y74 y75 y76 y77 y78 y79 y80 y81 y82 y83 y84 y85 y86 y87 y88 y89 y90 y91 y92 y93 y94 y95 y96 y97 y98 y99 y100 y101 y102 y103 y104 y105 y106 y107 y108 y109 y110 y111 y112 y113 y114 y115 y116 y117 y118 y119 y120 y121 y122 y123 y124 y125 y126 y127 y128 y129 y130 y131 y132 y133 y134 y135 y136 y137 y138 y139 y140 y141 y142 y143 y144 y145 y146 y147 y148 y149 y150 y151 y152 y153 y154 y155 y156 y157 y158 y159 y160 y161 y162 y163 y164 y165 y166 y167:Value} (HC:Po w wa mx g2 bp bv P1 P2 P3 P4 V1 V2 V3 V4 r1 r2 r3 r4 v1 v2 v3 v4 a b x y L) (h:(1≤m∧m≤12∧a≤b∧Aa' a≤43∧Aa' b≤43∧L.length=n∧(∀ z∈L,Aa' z≤250)∧((n≤8∧f=0∧(Bl' a b m L).1=x∧(Bl' a b m L).2=y)∨(200<n∧n≤9223372036854775807∧f=5∧x=0∧y=0)))) (hq:Bn' wa Bp a b m m) :
   (codeAt 8 Tryz.f3).wp Tryz.prog (bodyPost Tryz.prog Tryz.f3 (At' w true)) { tmps:=#[.slice ad n c,y1,.int .i64 ((m:Nat):Int),y3,y4,y5,y6,y7,.slice (some ⟨g2,0,none⟩) n k2,y9,y10,y11,.pointer (some ⟨bp,0,none⟩),.slice (some ⟨Bp,0,none⟩) m m,.int .i64 0,.pointer (some ⟨bv,0,none⟩),.int .i64 f,y17,y18,y19,y20,y21,y22,y23,y24,y25,y26,y27,y28,y29,y30,y31,y32,y33,y34,y35,y36,y37,y38,y39,y40,y41,y42,y43,y44,y45,y46,y47,y48,y49,y50,y51,y52,y53,y54,y55,y56,y57,y58,y59,y60,y61,y62,y63,y64,y65,y66,y67,y68,y69,y70,y71,y72,y73,y74,y75,y76,y77,y78,y79,y80,y81,y82,y83,y84,y85,y86,y87,y88,y89,y90,y91,y92,y93,y94,y95,y96,y97,y98,y99,y100,y101,y102,y103,y104,y105,y106,y107,y108,y109,y110,y111,y112,y113,y114,y115,y116,y117,y118,y119,y120,y121,y122,y123,y124,y125,y126,y127,y128,y129,y130,y131,y132,y133,y134,y135,y136,y137,y138,y139,y140,y141,y142,y143,y144,y145,y146,y147,y148,y149,y150,y151,y152,y153,y154,y155,y156,y157,y158,y159,y160,y161,y162,y163,y164,y165,y166,y167],defers:=[] } wa:=by
 have d1:decide (((m:Nat):Int)<1)=false:=dF_ (by have:=h.1;omega)
 have d1':¬ ((m:Nat):Int)<1:=by have:=h.1;omega
 have d2:decide (((m:Nat):Int)>256)=false:=dF_ (by have:=h.2.1;omega)
 have d2':¬ ((m:Nat):Int)>256:=by have:=h.2.1;omega
 replace HC:=hid HC
 replace h:=hid h
 replace hq:=hid hq
 show Code.wp _ (Code.seq _ _) _ _ _
 go_upto_region 14 with fail
 rename_i G hG Gb hGb
 replace hG:=hid hG
 go_wp2_with fail
 refine hG.out _ _ ?_
 exact FJ HC.out h.out hq.out
theorem FK {w wa:World} {mx:Int} {g2 bp bv:Nat} {P1 P2 P3 P4 V1 V2 V3 V4:Option Addr} {r1 r2 r3 r4 v1 v2 v3 v4:Nat} {a b x y:Rat} {L:List Rat} {ad:Option Addr} {n c k2:Nat} {q:Int} {y1 y3 y4 y5 y6 y7 y9 y10 y11 y17 y18 y19 y20 y21 y22 y23 y24 y25 y26 y27 y28 y29 y30 y31 y32 y33 y34 y35 y36 y37 y38 y39 y40 y41 y42 y43 y44 y45 y46 y47 y48 y49 y50 y51 y52 y53 y54 y55 y56 y57 y58 y59 y60 y61 y62 y63 y64 y65 y66 y67 y68 y69 y70 y71 y72 y73 y74 y75 y76 y77 y78 y79 y80 y81 y82 y83 y84 y85 y86 y87 y88 y89 y90 y91 y92 y93 y94 y95 y96 y97 y98 y99 y100 y101 y102 y103 y104 y105 y106 y107 y108 y109 y110 y111 y112 y113 y114 y115 y116 y117 y118 y119 y120 y121 y122 y123 y124 y125 y126 y127 y128 y129 y130 y131 y132 y133 y134 y135 y136 y137 y138 y139 y140 y141 y142 y143 y144 y145 y146 y147 y148 y149 y150 y151 y152 y153 y154 y155 y156 y157 y158 y159 y160 y161 y162 y163 y164 y165 y166 y167:Value} (HC:Po w wa mx g2 bp bv P1 P2 P3 P4 V1 V2 V3 V4 r1 r2 r3 r4 v1 v2 v3 v4 a b x y L) (h:q<1) (hn:200<n) (hx:x=0) (hy:y=0) :
   (codeAt 8 Tryz.f3).wp Tryz.prog (bodyPost Tryz.prog Tryz.f3 (At' w true)) { tmps:=#[.slice ad n c,y1,.int .i64 q,y3,y4,y5,y6,y7,.slice (some ⟨g2,0,none⟩) n k2,y9,y10,y11,.pointer (some ⟨bp,0,none⟩),.slice none 0 0,.int .i64 3,.pointer (some ⟨bv,0,none⟩),.int .i64 5,y17,y18,y19,y20,y21,y22,y23,y24,y25,y26,y27,y28,y29,y30,y31,y32,y33,y34,y35,y36,y37,y38,y39,y40,y41,y42,y43,y44,y45,y46,y47,y48,y49,y50,y51,y52,y53,y54,y55,y56,y57,y58,y59,y60,y61,y62,y63,y64,y65,y66,y67,y68,y69,y70,y71,y72,y73,y74,y75,y76,y77,y78,y79,y80,y81,y82,y83,y84,y85,y86,y87,y88,y89,y90,y91,y92,y93,y94,y95,y96,y97,y98,y99,y100,y101,y102,y103,y104,y105,y106,y107,y108,y109,y110,y111,y112,y113,y114,y115,y116,y117,y118,y119,y120,y121,y122,y123,y124,y125,y126,y127,y128,y129,y130,y131,y132,y133,y134,y135,y136,y137,y138,y139,y140,y141,y142,y143,y144,y145,y146,y147,y148,y149,y150,y151,y152,y153,y154,y155,y156,y157,y158,y159,y160,y161,y162,y163,y164,y165,y166,y167],defers:=[] } wa:=by
 have d1:decide (q<1)=true:=dT_ h
 have d3:decide (((n:Nat):Int)>200)=true:=dT_ (by omega)
 have d3':(((n:Nat):Int)>200):=by omega
 replace HC:=hid HC
 replace hx:=hid hx
 replace hy:=hid hy
 replace h:=hid h
 replace hn:=hid hn
 have HBp:=hid HC.out.hp
 have HRp:=hid HC.out.rp
 have HBv:=hid HC.out.hv
 have HRv:=hid HC.out.rv
 show Code.wp _ (Code.seq _ _) _ _ _
 go_upto_region 18 with fail
 obtain ⟨z_v_0,z_v_1,z_v_2,z_v_3,z_v_4,z_v_5⟩:=Ae' HRv.out
 have HX:=hid (CC' hx.out hy.out HBv.out)
 go_wp2_with fail
 refine (HX.out).mono ?_
 rintro e w1 ⟨rfl,b1⟩
 replace b1:=hid b1
 clear HX
 clear z_v_0 z_v_1 z_v_2 z_v_3 z_v_4 z_v_5
 have HX:=hid (AQ' (HC.out.keep b1.out).hM (HC.out.keep b1.out).hT)
 go_wp2_with fail
 refine (HX.out).mono ?_
 rintro e w2 ⟨rfl,b2⟩
 replace b2:=hid b2
 clear HX
 have y0_2:=hid (bS b1.out b2.out)
 have HE:=hid (HC.out.keep y0_2.out).hB
 go_wp2_with fail
 go_ret
 exact ⟨rfl,HE.out⟩
theorem FK' {w wa:World} {mx:Int} {g2 bp bv:Nat} {P1 P2 P3 P4 V1 V2 V3 V4:Option Addr} {r1 r2 r3 r4 v1 v2 v3 v4:Nat} {a b x y:Rat} {L:List Rat} {ad:Option Addr} {n c k2:Nat} {q:Int} {y1 y3 y4 y5 y6 y7 y9 y10 y11 y17 y18 y19 y20 y21 y22 y23 y24 y25 y26 y27 y28 y29 y30 y31 y32 y33 y34 y35 y36 y37 y38 y39 y40 y41 y42 y43 y44 y45 y46 y47 y48 y49 y50 y51 y52 y53 y54 y55 y56 y57 y58 y59 y60 y61 y62 y63 y64 y65 y66 y67 y68 y69 y70 y71 y72 y73 y74 y75 y76 y77 y78 y79 y80 y81 y82 y83 y84 y85 y86 y87 y88 y89 y90 y91 y92 y93 y94 y95 y96 y97 y98 y99 y100 y101 y102 y103 y104 y105 y106 y107 y108 y109 y110 y111 y112 y113 y114 y115 y116 y117 y118 y119 y120 y121 y122 y123 y124 y125 y126 y127 y128 y129 y130 y131 y132 y133 y134 y135 y136 y137 y138 y139 y140 y141 y142 y143 y144 y145 y146 y147 y148 y149 y150 y151 y152 y153 y154 y155 y156 y157 y158 y159 y160 y161 y162 y163 y164 y165 y166 y167:Value} (HC:Po w wa mx g2 bp bv P1 P2 P3 P4 V1 V2 V3 V4 r1 r2 r3 r4 v1 v2 v3 v4 a b x y L) (h:q<1) (hn:n≤200) (hx:x=0) (hy:y=0) :
   (codeAt 8 Tryz.f3).wp Tryz.prog (bodyPost Tryz.prog Tryz.f3 (At' w true)) { tmps:=#[.slice ad n c,y1,.int .i64 q,y3,y4,y5,y6,y7,.slice (some ⟨g2,0,none⟩) n k2,y9,y10,y11,.pointer (some ⟨bp,0,none⟩),.slice none 0 0,.int .i64 3,.pointer (some ⟨bv,0,none⟩),.int .i64 3,y17,y18,y19,y20,y21,y22,y23,y24,y25,y26,y27,y28,y29,y30,y31,y32,y33,y34,y35,y36,y37,y38,y39,y40,y41,y42,y43,y44,y45,y46,y47,y48,y49,y50,y51,y52,y53,y54,y55,y56,y57,y58,y59,y60,y61,y62,y63,y64,y65,y66,y67,y68,y69,y70,y71,y72,y73,y74,y75,y76,y77,y78,y79,y80,y81,y82,y83,y84,y85,y86,y87,y88,y89,y90,y91,y92,y93,y94,y95,y96,y97,y98,y99,y100,y101,y102,y103,y104,y105,y106,y107,y108,y109,y110,y111,y112,y113,y114,y115,y116,y117,y118,y119,y120,y121,y122,y123,y124,y125,y126,y127,y128,y129,y130,y131,y132,y133,y134,y135,y136,y137,y138,y139,y140,y141,y142,y143,y144,y145,y146,y147,y148,y149,y150,y151,y152,y153,y154,y155,y156,y157,y158,y159,y160,y161,y162,y163,y164,y165,y166,y167],defers:=[] } wa:=by
 have d1:decide (q<1)=true:=dT_ h
 have d3:decide (((n:Nat):Int)>200)=false:=dF_ (by omega)
 have d3':¬ (((n:Nat):Int)>200):=by omega
 replace HC:=hid HC
 replace hx:=hid hx
 replace hy:=hid hy
 replace h:=hid h
 replace hn:=hid hn
 have HBp:=hid HC.out.hp
 have HRp:=hid HC.out.rp
 have HBv:=hid HC.out.hv
 have HRv:=hid HC.out.rv
 show Code.wp _ (Code.seq _ _) _ _ _
 go_upto_region 18 with fail
 obtain ⟨z_v_0,z_v_1,z_v_2,z_v_3,z_v_4,z_v_5⟩:=Ae' HRv.out
 have HX:=hid (CC' hx.out hy.out HBv.out)
 go_wp2_with fail
 refine (HX.out).mono ?_
 rintro e w1 ⟨rfl,b1⟩
 replace b1:=hid b1
 clear HX
 clear z_v_0 z_v_1 z_v_2 z_v_3 z_v_4 z_v_5
 have HX:=hid (AQ' (HC.out.keep b1.out).hM (HC.out.keep b1.out).hT)
 go_wp2_with fail
 refine (HX.out).mono ?_
 rintro e w2 ⟨rfl,b2⟩
 replace b2:=hid b2
 clear HX
 have y0_2:=hid (bS b1.out b2.out)
 have HE:=hid (HC.out.keep y0_2.out).hB
 go_wp2_with fail
 go_ret
 exact ⟨rfl,HE.out⟩
theorem FL {w wa:World} {mx:Int} {g2 bp bv:Nat} {P1 P2 P3 P4 V1 V2 V3 V4:Option Addr} {r1 r2 r3 r4 v1 v2 v3 v4:Nat} {a b x y:Rat} {L:List Rat} {ad:Option Addr} {n c k2:Nat} {q:Int} {y1 y3 y4 y5 y6 y7 y9 y10 y11 y17 y18 y19 y20 y21 y22 y23 y24 y25 y26 y27 y28 y29 y30 y31 y32 y33 y34 y35 y36 y37 y38 y39 y40 y41 y42 y43 y44 y45 y46 y47 y48 y49 y50 y51 y52 y53 y54 y55 y56 y57 y58 y59 y60 y61 y62 y63 y64 y65 y66 y67 y68 y69 y70 y71 y72 y73 y74 y75 y76 y77 y78 y79 y80 y81 y82 y83 y84 y85 y86 y87 y88 y89 y90 y91 y92 y93 y94 y95 y96 y97 y98 y99 y100 y101 y102 y103 y104 y105 y106 y107 y108 y109 y110 y111 y112 y113 y114 y115 y116 y117 y118 y119 y120 y121 y122 y123 y124 y125 y126 y127 y128 y129 y130 y131 y132 y133 y134 y135 y136 y137 y138 y139 y140 y141 y142 y143 y144 y145 y146 y147 y148 y149 y150 y151 y152 y153 y154 y155 y156 y157 y158 y159 y160 y161 y162 y163 y164 y165 y166 y167:Value} (HC:Po w wa mx g2 bp bv P1 P2 P3 P4 V1 V2 V3 V4 r1 r2 r3 r4 v1 v2 v3 v4 a b x y L) (h:256<q) (hn:200<n) (hx:x=0) (hy:y=0) :
   (codeAt 8 Tryz.f3).wp Tryz.prog (bodyPost Tryz.prog Tryz.f3 (At' w true)) { tmps:=#[.slice ad n c,y1,.int .i64 q,y3,y4,y5,y6,y7,.slice (some ⟨g2,0,none⟩) n k2,y9,y10,y11,.pointer (some ⟨bp,0,none⟩),.slice none 0 0,.int .i64 3,.pointer (some ⟨bv,0,none⟩),.int .i64 5,y17,y18,y19,y20,y21,y22,y23,y24,y25,y26,y27,y28,y29,y30,y31,y32,y33,y34,y35,y36,y37,y38,y39,y40,y41,y42,y43,y44,y45,y46,y47,y48,y49,y50,y51,y52,y53,y54,y55,y56,y57,y58,y59,y60,y61,y62,y63,y64,y65,y66,y67,y68,y69,y70,y71,y72,y73,y74,y75,y76,y77,y78,y79,y80,y81,y82,y83,y84,y85,y86,y87,y88,y89,y90,y91,y92,y93,y94,y95,y96,y97,y98,y99,y100,y101,y102,y103,y104,y105,y106,y107,y108,y109,y110,y111,y112,y113,y114,y115,y116,y117,y118,y119,y120,y121,y122,y123,y124,y125,y126,y127,y128,y129,y130,y131,y132,y133,y134,y135,y136,y137,y138,y139,y140,y141,y142,y143,y144,y145,y146,y147,y148,y149,y150,y151,y152,y153,y154,y155,y156,y157,y158,y159,y160,y161,y162,y163,y164,y165,y166,y167],defers:=[] } wa:=by
 have d1:decide (q<1)=false:=dF_ (by omega)
 have d1':¬ q<1:=by omega
 have d2:decide (q>256)=true:=dT_ h
 have d2':q>256:=h
 have d3:decide (((n:Nat):Int)>200)=true:=dT_ (by omega)
 have d3':(((n:Nat):Int)>200):=by omega
 replace HC:=hid HC
 replace hx:=hid hx
 replace hy:=hid hy
 replace h:=hid h
 replace hn:=hid hn
 have HBp:=hid HC.out.hp
 have HRp:=hid HC.out.rp
 have HBv:=hid HC.out.hv
 have HRv:=hid HC.out.rv
 show Code.wp _ (Code.seq _ _) _ _ _
 go_upto_region 18 with fail
 obtain ⟨z_v_0,z_v_1,z_v_2,z_v_3,z_v_4,z_v_5⟩:=Ae' HRv.out
 have HX:=hid (CC' hx.out hy.out HBv.out)
 go_wp2_with fail
 refine (HX.out).mono ?_
 rintro e w1 ⟨rfl,b1⟩
 replace b1:=hid b1
 clear HX
 clear z_v_0 z_v_1 z_v_2 z_v_3 z_v_4 z_v_5
 have HX:=hid (AQ' (HC.out.keep b1.out).hM (HC.out.keep b1.out).hT)
 go_wp2_with fail
 refine (HX.out).mono ?_
 rintro e w2 ⟨rfl,b2⟩
 replace b2:=hid b2
 clear HX
 have y0_2:=hid (bS b1.out b2.out)
 have HE:=hid (HC.out.keep y0_2.out).hB
 go_wp2_with fail
 go_ret
 exact ⟨rfl,HE.out⟩
theorem FL' {w wa:World} {mx:Int} {g2 bp bv:Nat} {P1 P2 P3 P4 V1 V2 V3 V4:Option Addr} {r1 r2 r3 r4 v1 v2 v3 v4:Nat} {a b x y:Rat} {L:List Rat} {ad:Option Addr} {n c k2:Nat} {q:Int} {y1 y3 y4 y5 y6 y7 y9 y10 y11 y17 y18 y19 y20 y21 y22 y23 y24 y25 y26 y27 y28 y29 y30 y31 y32 y33 y34 y35 y36 y37 y38 y39 y40 y41 y42 y43 y44 y45 y46 y47 y48 y49 y50 y51 y52 y53 y54 y55 y56 y57 y58 y59 y60 y61 y62 y63 y64 y65 y66 y67 y68 y69 y70 y71 y72 y73 y74 y75 y76 y77 y78 y79 y80 y81 y82 y83 y84 y85 y86 y87 y88 y89 y90 y91 y92 y93 y94 y95 y96 y97 y98 y99 y100 y101 y102 y103 y104 y105 y106 y107 y108 y109 y110 y111 y112 y113 y114 y115 y116 y117 y118 y119 y120 y121 y122 y123 y124 y125 y126 y127 y128 y129 y130 y131 y132 y133 y134 y135 y136 y137 y138 y139 y140 y141 y142 y143 y144 y145 y146 y147 y148 y149 y150 y151 y152 y153 y154 y155 y156 y157 y158 y159 y160 y161 y162 y163 y164 y165 y166 y167:Value} (HC:Po w wa mx g2 bp bv P1 P2 P3 P4 V1 V2 V3 V4 r1 r2 r3 r4 v1 v2 v3 v4 a b x y L) (h:256<q) (hn:n≤200) (hx:x=0) (hy:y=0) :
   (codeAt 8 Tryz.f3).wp Tryz.prog (bodyPost Tryz.prog Tryz.f3 (At' w true)) { tmps:=#[.slice ad n c,y1,.int .i64 q,y3,y4,y5,y6,y7,.slice (some ⟨g2,0,none⟩) n k2,y9,y10,y11,.pointer (some ⟨bp,0,none⟩),.slice none 0 0,.int .i64 3,.pointer (some ⟨bv,0,none⟩),.int .i64 3,y17,y18,y19,y20,y21,y22,y23,y24,y25,y26,y27,y28,y29,y30,y31,y32,y33,y34,y35,y36,y37,y38,y39,y40,y41,y42,y43,y44,y45,y46,y47,y48,y49,y50,y51,y52,y53,y54,y55,y56,y57,y58,y59,y60,y61,y62,y63,y64,y65,y66,y67,y68,y69,y70,y71,y72,y73,y74,y75,y76,y77,y78,y79,y80,y81,y82,y83,y84,y85,y86,y87,y88,y89,y90,y91,y92,y93,y94,y95,y96,y97,y98,y99,y100,y101,y102,y103,y104,y105,y106,y107,y108,y109,y110,y111,y112,y113,y114,y115,y116,y117,y118,y119,y120,y121,y122,y123,y124,y125,y126,y127,y128,y129,y130,y131,y132,y133,y134,y135,y136,y137,y138,y139,y140,y141,y142,y143,y144,y145,y146,y147,y148,y149,y150,y151,y152,y153,y154,y155,y156,y157,y158,y159,y160,y161,y162,y163,y164,y165,y166,y167],defers:=[] } wa:=by
 have d1:decide (q<1)=false:=dF_ (by omega)
 have d1':¬ q<1:=by omega
 have d2:decide (q>256)=true:=dT_ h
 have d2':q>256:=h
 have d3:decide (((n:Nat):Int)>200)=false:=dF_ (by omega)
 have d3':¬ (((n:Nat):Int)>200):=by omega
 replace HC:=hid HC
 replace hx:=hid hx
 replace hy:=hid hy
 replace h:=hid h
 replace hn:=hid hn
 have HBp:=hid HC.out.hp
 have HRp:=hid HC.out.rp
 have HBv:=hid HC.out.hv
 have HRv:=hid HC.out.rv
 show Code.wp _ (Code.seq _ _) _ _ _
 go_upto_region 18 with fail
 obtain ⟨z_v_0,z_v_1,z_v_2,z_v_3,z_v_4,z_v_5⟩:=Ae' HRv.out
 have HX:=hid (CC' hx.out hy.out HBv.out)
 go_wp2_with fail
 refine (HX.out).mono ?_
 rintro e w1 ⟨rfl,b1⟩
 replace b1:=hid b1
 clear HX
 clear z_v_0 z_v_1 z_v_2 z_v_3 z_v_4 z_v_5
 have HX:=hid (AQ' (HC.out.keep b1.out).hM (HC.out.keep b1.out).hT)
 go_wp2_with fail
 refine (HX.out).mono ?_
 rintro e w2 ⟨rfl,b2⟩
 replace b2:=hid b2
 clear HX
 have y0_2:=hid (bS b1.out b2.out)
 have HE:=hid (HC.out.keep y0_2.out).hB
 go_wp2_with fail
 go_ret
 exact ⟨rfl,HE.out⟩
theorem GD {w wa:World} {mx:Int} {g2 bp bv:Nat} {P1 P2 P3 P4 V1 V2 V3 V4:Option Addr} {r1 r2 r3 r4 v1 v2 v3 v4:Nat} {a b x y:Rat} {L:List Rat} {ad:Option Addr} {n c k2:Nat} {q:Int} {y1 y3 y4 y5 y6 y7 y9 y10 y11 y17 y18 y19 y20 y21 y22 y23 y24 y25 y26 y27 y28 y29 y30 y31 y32 y33 y34 y35 y36 y37 y38 y39 y40 y41 y42 y43 y44 y45 y46 y47 y48 y49 y50 y51 y52 y53 y54 y55 y56 y57 y58 y59 y60 y61 y62 y63 y64 y65 y66 y67 y68 y69 y70 y71 y72 y73 y74 y75 y76 y77 y78 y79 y80 y81 y82 y83 y84 y85 y86 y87 y88 y89 y90 y91 y92 y93 y94 y95 y96 y97 y98 y99 y100 y101 y102 y103 y104 y105 y106 y107 y108 y109 y110 y111 y112 y113 y114 y115 y116 y117 y118 y119 y120 y121 y122 y123 y124 y125 y126 y127 y128 y129 y130 y131 y132 y133 y134 y135 y136 y137 y138 y139 y140 y141 y142 y143 y144 y145 y146 y147 y148 y149 y150 y151 y152 y153 y154 y155 y156 y157 y158 y159 y160 y161 y162 y163 y164 y165 y166 y167:Value} (HC:Po w wa mx g2 bp bv P1 P2 P3 P4 V1 V2 V3 V4 r1 r2 r3 r4 v1 v2 v3 v4 a b x y L) (h:q<1∨256<q) (hn:200<n) (hx:x=0) (hy:y=0) :
   (codeAt 8 Tryz.f3).wp Tryz.prog (bodyPost Tryz.prog Tryz.f3 (At' w true)) { tmps:=#[.slice ad n c,y1,.int .i64 q,y3,y4,y5,y6,y7,.slice (some ⟨g2,0,none⟩) n k2,y9,y10,y11,.pointer (some ⟨bp,0,none⟩),.slice none 0 0,.int .i64 3,.pointer (some ⟨bv,0,none⟩),.int .i64 5,y17,y18,y19,y20,y21,y22,y23,y24,y25,y26,y27,y28,y29,y30,y31,y32,y33,y34,y35,y36,y37,y38,y39,y40,y41,y42,y43,y44,y45,y46,y47,y48,y49,y50,y51,y52,y53,y54,y55,y56,y57,y58,y59,y60,y61,y62,y63,y64,y65,y66,y67,y68,y69,y70,y71,y72,y73,y74,y75,y76,y77,y78,y79,y80,y81,y82,y83,y84,y85,y86,y87,y88,y89,y90,y91,y92,y93,y94,y95,y96,y97,y98,y99,y100,y101,y102,y103,y104,y105,y106,y107,y108,y109,y110,y111,y112,y113,y114,y115,y116,y117,y118,y119,y120,y121,y122,y123,y124,y125,y126,y127,y128,y129,y130,y131,y132,y133,y134,y135,y136,y137,y138,y139,y140,y141,y142,y143,y144,y145,y146,y147,y148,y149,y150,y151,y152,y153,y154,y155,y156,y157,y158,y159,y160,y161,y162,y163,y164,y165,y166,y167],defers:=[] } wa:=by
 rcases h with h | h
 · exact FK HC h hn hx hy
 · exact FL HC h hn hx hy
theorem GD' {w wa:World} {mx:Int} {g2 bp bv:Nat} {P1 P2 P3 P4 V1 V2 V3 V4:Option Addr} {r1 r2 r3 r4 v1 v2 v3 v4:Nat} {a b x y:Rat} {L:List Rat} {ad:Option Addr} {n c k2:Nat} {q:Int} {y1 y3 y4 y5 y6 y7 y9 y10 y11 y17 y18 y19 y20 y21 y22 y23 y24 y25 y26 y27 y28 y29 y30 y31 y32 y33 y34 y35 y36 y37 y38 y39 y40 y41 y42 y43 y44 y45 y46 y47 y48 y49 y50 y51 y52 y53 y54 y55 y56 y57 y58 y59 y60 y61 y62 y63 y64 y65 y66 y67 y68 y69 y70 y71 y72 y73 y74 y75 y76 y77 y78 y79 y80 y81 y82 y83 y84 y85 y86 y87 y88 y89 y90 y91 y92 y93 y94 y95 y96 y97 y98 y99 y100 y101 y102 y103 y104 y105 y106 y107 y108 y109 y110 y111 y112 y113 y114 y115 y116 y117 y118 y119 y120 y121 y122 y123 y124 y125 y126 y127 y128 y129 y130 y131 y132 y133 y134 y135 y136 y137 y138 y139 y140 y141 y142 y143 y144 y145 y146 y147 y148 y149 y150 y151 y152 y153 y154 y155 y156 y157 y158 y159 y160 y161 y162 y163 y164 y165 y166 y167:Value} (HC:Po w wa mx g2 bp bv P1 P2 P3 P4 V1 V2 V3 V4 r1 r2 r3 r4 v1 v2 v3 v4 a b x y L) (h:q<1∨256<q) (hn:n≤200) (hx:x=0) (hy:y=0) :
   (codeAt 8 Tryz.f3).wp Tryz.prog (bodyPost Tryz.prog Tryz.f3 (At' w true)) { tmps:=#[.slice ad n c,y1,.int .i64 q,y3,y4,y5,y6,y7,.slice (some ⟨g2,0,none⟩) n k2,y9,y10,y11,.pointer (some ⟨bp,0,none⟩),.slice none 0 0,.int .i64 3,.pointer (some ⟨bv,0,none⟩),.int .i64 3,y17,y18,y19,y20,y21,y22,y23,y24,y25,y26,y27,y28,y29,y30,y31,y32,y33,y34,y35,y36,y37,y38,y39,y40,y41,y42,y43,y44,y45,y46,y47,y48,y49,y50,y51,y52,y53,y54,y55,y56,y57,y58,y59,y60,y61,y62,y63,y64,y65,y66,y67,y68,y69,y70,y71,y72,y73,y74,y75,y76,y77,y78,y79,y80,y81,y82,y83,y84,y85,y86,y87,y88,y89,y90,y91,y92,y93,y94,y95,y96,y97,y98,y99,y100,y101,y102,y103,y104,y105,y106,y107,y108,y109,y110,y111,y112,y113,y114,y115,y116,y117,y118,y119,y120,y121,y122,y123,y124,y125,y126,y127,y128,y129,y130,y131,y132,y133,y134,y135,y136,y137,y138,y139,y140,y141,y142,y143,y144,y145,y146,y147,y148,y149,y150,y151,y152,y153,y154,y155,y156,y157,y158,y159,y160,y161,y162,y163,y164,y165,y166,y167],defers:=[] } wa:=by
 rcases h with h | h
 · exact FK' HC h hn hx hy
 · exact FL' HC h hn hx hy
theorem Eb' {w:World} {A:Option Addr} {n cap:Nat} {v:Value} {a b o:Rat} {m:Int} (ho:0=o) (hv:Ao' w v a b) (h:200<n) (hn:n≤9223372036854775807):Calls Tryz.prog 8 #[.slice A n cap,v,.int .i64 m] w (Ba w o o 5):=ho ▸ HB' hv h hn
theorem FM {w:World} {A:Option Addr} {n cap:Nat} {v:Value} {a b o:Rat} {m:Int} (ho:0=o) (hv:Ao' w v a b) (h:n≤200) (hm:m<1∨256<m):Calls Tryz.prog 8 #[.slice A n cap,v,.int .i64 m] w (Ba w o o 3):=ho ▸ GA hv h hm
theorem ID {L:List Rat} {N:Nat} (h:∀ z∈L,Aa' z≤N):∀ j,j<L.length→Aa' (L.getD j 0)≤N:=by
 intro j hj
 have:L.getD j 0=L[j]:=by simp [List.getD,hj]
 rw [this]
 exact h _ (List.getElem_mem hj)
theorem FM' {w wa:World} {mx:Int} {g1 g2 be:Nat} {L:List Rat} {s1 s2:ByteArray} {ad:Option Addr} {n c k1 k2:Nat} {m:Nat} {y1 y3 y5 y6 y9 y10 y11 y12 y13 y14 y15 y16 y17 y18 y19 y20 y21 y22 y23 y24 y25 y26 y27 y28 y29 y30 y31 y32 y33 y34 y35 y36 y37 y38 y39 y40 y41 y42 y43 y44 y45 y46 y47 y48 y49 y50 y51 y52 y53 y54 y55 y56 y57 y58 y59 y60 y61 y62 y63 y64 y65 y66 y67 y68 y69 y70 y71 y72 y73 y74 y75 y76 y77 y78 y79 y80 y81 y82 y83 y84 y85 y86 y87 y88 y89 y90 y91 y92 y93 y94 y95 y96 y97 y98 y99 y100 y101 y102 y103 y104 y105 y106 y107 y108 y109 y110 y111 y112 y113 y114 y115 y116 y117 y118 y119 y120 y121 y122 y123 y124 y125 y126 y127 y128 y129 y130 y131 y132 y133 y134 y135 y136 y137 y138 y139 y140 y141 y142 y143 y144 y145 y146 y147 y148 y149 y150 y151 y152 y153 y154 y155 y156 y157 y158 y159 y160 y161 y162 y163 y164 y165 y166 y167:Value} (hl:Ba' wa g1 0 L) (hr:Bx' wa g2 0 L) (re:wa.heap[be]?=some (.cells #[.string s1,.string s2] 24 (0,0))) (hM0:w.cell? ⟨1,0,none⟩=some (.int .i64 mx)) (hT0:TabAt 0 Lib.deBruijn64tab w) (hB:Below w.heap.size w wa) (h1:s1.size≤20) (h2:s2.size≤20) (eL:L.length=n) (hs:∀ z∈L,Aa' z≤250) (hn:n≤8) (hm1:1≤m) (hm2:m≤12) :
   (codeAt 5 Tryz.f3).wp Tryz.prog (bodyPost Tryz.prog Tryz.f3 (At' w true)) { tmps:=#[.slice ad n c,y1,.int .i64 ((m:Nat):Int),y3,.pointer (some ⟨be,0,none⟩),y5,y6,.slice (some ⟨g1,0,none⟩) n k1,.slice (some ⟨g2,0,none⟩) n k2,y9,y10,y11,y12,y13,y14,y15,y16,y17,y18,y19,y20,y21,y22,y23,y24,y25,y26,y27,y28,y29,y30,y31,y32,y33,y34,y35,y36,y37,y38,y39,y40,y41,y42,y43,y44,y45,y46,y47,y48,y49,y50,y51,y52,y53,y54,y55,y56,y57,y58,y59,y60,y61,y62,y63,y64,y65,y66,y67,y68,y69,y70,y71,y72,y73,y74,y75,y76,y77,y78,y79,y80,y81,y82,y83,y84,y85,y86,y87,y88,y89,y90,y91,y92,y93,y94,y95,y96,y97,y98,y99,y100,y101,y102,y103,y104,y105,y106,y107,y108,y109,y110,y111,y112,y113,y114,y115,y116,y117,y118,y119,y120,y121,y122,y123,y124,y125,y126,y127,y128,y129,y130,y131,y132,y133,y134,y135,y136,y137,y138,y139,y140,y141,y142,y143,y144,y145,y146,y147,y148,y149,y150,y151,y152,y153,y154,y155,y156,y157,y158,y159,y160,y161,y162,y163,y164,y165,y166,y167],defers:=[] } wa:=by
 obtain ⟨p,ep⟩:=eY ((Ap' s1).1)
 obtain ⟨q_,eq⟩:=eY ((Ap' s2).1)
 obtain ⟨a,la⟩:=eY ((if q_<p then q_ else p))
 obtain ⟨b,lb⟩:=eY ((if q_<p then p else q_))
 have k1_:=AZ s1
 have k2_:=AZ s2
 rw [ep] at k1_
 rw [eq] at k2_
 have hab:a≤b:=by
   rw [←la,←lb]
   split
   · rename_i k;exact Rat.le_of_lt k
   · rename_i k;exact Rat.not_lt.1 k
 have sa:Aa' a≤43:=by rw [←la];split <;> omega
 have sb:Aa' b≤43:=by rw [←lb];split <;> omega
 have hs1:s1.size≤1048576:=by omega
 have hs2:s2.size≤1048576:=by omega
 clear k1_ k2_ h1 h2
 have hm12:((m:Nat):Int)≤12:=by omega
 obtain ⟨x,ex⟩:=eY ((Bl' a b m L).1)
 obtain ⟨y,ey⟩:=eY ((Bl' a b m L).2)
 obtain ⟨vf,hV⟩:=FJ' hl
 rw [eL] at hV
 replace hV:=hid hV
 replace ex:=hid ex
 replace ey:=hid ey
 have hn9:((n:Nat):Int)≤8:=by omega
 replace hl:=hid hl
 replace hr:=hid hr
 replace re:=hid re
 replace hM0:=hid hM0
 replace hT0:=hid hT0
 replace hB:=hid hB
 replace eL:=hid eL
 replace hs:=hid hs
 replace ep:=hid ep
 replace eq:=hid eq
 replace la:=hid la
 replace lb:=hid lb
 replace hab:=hid hab
 replace sa:=hid sa
 replace sb:=hid sb
 replace hs1:=hid hs1
 replace hs2:=hid hs2
 replace hn:=hid hn
 replace hm1:=hid hm1
 replace hm2:=hid hm2
 show Code.wp _ (Code.seq _ _) _ _ _
 refine wp_seq_k ?_
 intro G1 hG1
 replace hG1:=hid hG1
 have hg:wa.heap[be]?=some (.cells #[.string s1,.string s2] 24 (0,0)):=((Below.refl _ wa).block _ (gE.1 re.out).1).trans re.out
 have z_e_0:wa.cell? ⟨be,0,none⟩=some (.string s1):=cR _ _ _ _ _ _ hg
 have z_e_1:wa.cell? ⟨be,1,none⟩=some (.string s2):=cR _ _ _ _ _ _ hg
 clear hg
 have HX:=hid (CH' ep.out eq.out la.out lb.out hs1.out hs2.out (Av' hM0.out hB.out))
 go_wp2_with fail
 refine (HX.out).mono ?_
 rintro e w1 ⟨va1,vb1,rfl,ha1,hb1,b1⟩
 obtain ⟨C1,j1,C2,j2,C3,j3,C4,j4,rfl,-,-,-,-⟩:=id ha1.opened
 replace ha1:=hid ha1
 obtain ⟨C5,j5,C6,j6,C7,j7,C8,j8,rfl,-,-,-,-⟩:=id hb1.opened
 replace hb1:=hid hb1
 replace b1:=hid b1
 clear HX
 clear z_e_0 z_e_1
 go_wp2_with fail
 obtain ⟨w2,hw2⟩:=eX ((w1.alloc (.cells #[.bool (decide (a.num<0)),.slice C1 (Vx.len a.num.natAbs) j1,.slice C2 (Vx.len (below a.den)) j2,.bool (decide (b.num<0)),.slice C3 (Vx.len b.num.natAbs) j3,.slice C4 (Vx.len (below b.den)) j4] 35)).alloc (.cells #[.bool (decide (a.num<0)),.slice C5 (len a.num.natAbs) j5,.slice C6 (len a.den) j6,.bool (decide (b.num<0)),.slice C7 (len b.num.natAbs) j7,.slice C8 (len b.den) j8] 41))
 obtain ⟨b2,L2,M2⟩:=D4' hw2
 rw [←hw2]
 clear hw2
 replace b2:=hid b2
 replace L2:=hid L2
 replace M2:=hid M2
 refine hG1.out _ _ ?_
 clear hG1
 show Code.wp _ (Code.seq _ _) _ _ _
 refine wp_seq_k ?_
 intro G2 hG2
 replace hG2:=hid hG2
 obtain ⟨z_s_0,z_s_1,z_s_2,z_s_3,z_s_4,z_s_5⟩:=Ae' L2.out
 have HX:=hid (CD (n:=m) (ha1.out.keep b2.out) hm1.out (show m≤256 by have:=hm2.out;omega) (nT sa.out (by omega)) (nT sb.out (by omega)))
 go_wp2_with fail
 refine (HX.out).mono ?_
 rintro e w3 ⟨Bp,rfl,hq,b3⟩
 replace hq:=hid hq
 replace b3:=hid b3
 clear HX
 clear z_s_0 z_s_1 z_s_2 z_s_3 z_s_4 z_s_5
 go_wp2_with fail
 refine hG2.out _ _ ?_
 clear hG2
 show Code.wp _ (Code.seq _ _) _ _ _
 refine wp_seq_k ?_
 intro G3 hG3
 replace hG3:=hid hG3
 obtain ⟨z_s_0,z_s_1,z_s_2,z_s_3,z_s_4,z_s_5⟩:=Ae' (Ad' L2.out b3.out)
 have y0_3:=hid (bS (bS b1.out b2.out) b3.out)
 have y1_3:=hid (bS b2.out b3.out)
 have HX:=hid (Iz (cap:=k1) (hV.out.keep y0_3.out) (ha1.out.keep y1_3.out) eL.out (fun j hj=>by simp [List.getD,eL.out,hj]) ex.out ey.out (nT hn.out (by omega)) hm1.out (nT hm2.out (by omega)) (nT sa.out (by omega)) (nT sb.out (by omega)) (fun j hj=>nT (ID hs.out j (by rw [eL.out];exact hj)) (by omega)))
 go_wp2_with fail
 refine (HX.out).mono ?_
 rintro e w4 ⟨v4,rfl,hv4,b4⟩
 obtain ⟨C9,j9,C10,j10,C11,j11,C12,j12,rfl,-,-,-,-⟩:=id hv4.opened
 replace hv4:=hid hv4
 replace b4:=hid b4
 clear HX
 clear z_s_0 z_s_1 z_s_2 z_s_3 z_s_4 z_s_5
 go_wp2_with fail
 obtain ⟨w5,hw5⟩:=eX (w4.alloc (.cells #[.bool (decide (x.num<0)),.slice C9 (Vx.len x.num.natAbs) j9,.slice C10 (Vx.len (below x.den)) j10,.bool (decide (y.num<0)),.slice C11 (Vx.len y.num.natAbs) j11,.slice C12 (Vx.len (below y.den)) j12] 35))
 have b5:=hid (AC hw5)
 have L5:=hid (AI' hw5)
 rw [←hw5]
 clear hw5
 have y0_5:=hid (bS (bS y0_3.out b4.out) b5.out)
 have y2_5:=hid (bS (bS b3.out b4.out) b5.out)
 have y1_5:=hid (bS (bS y1_3.out b4.out) b5.out)
 have HCn:=hid (Po.mk (w:=w) (hr.out.keep y0_5.out) (Ad' M2.out y2_5.out) (hb1.out.keep y1_5.out) L5.out (hv4.out.keep b5.out) (Av' hM0.out (chain hB.out y0_5.out)) (Aq hT0.out (chain hB.out y0_5.out)) (chain hB.out y0_5.out))
 refine hG3.out _ _ ?_
 have y3_5:=hid (bS b4.out b5.out)
 exact Fr' HCn.out ⟨hm1.out,hm2.out,hab.out,sa.out,sb.out,eL.out,hs.out,Or.inl ⟨hn.out,rfl,ex.out,ey.out⟩⟩ (hq.out.keep y3_5.out)
theorem FN {w wa:World} {mx:Int} {g1 g2 be:Nat} {L:List Rat} {s1 s2:ByteArray} {ad:Option Addr} {n c k1 k2:Nat} {m:Nat} {y1 y3 y5 y6 y9 y10 y11 y12 y13 y14 y15 y16 y17 y18 y19 y20 y21 y22 y23 y24 y25 y26 y27 y28 y29 y30 y31 y32 y33 y34 y35 y36 y37 y38 y39 y40 y41 y42 y43 y44 y45 y46 y47 y48 y49 y50 y51 y52 y53 y54 y55 y56 y57 y58 y59 y60 y61 y62 y63 y64 y65 y66 y67 y68 y69 y70 y71 y72 y73 y74 y75 y76 y77 y78 y79 y80 y81 y82 y83 y84 y85 y86 y87 y88 y89 y90 y91 y92 y93 y94 y95 y96 y97 y98 y99 y100 y101 y102 y103 y104 y105 y106 y107 y108 y109 y110 y111 y112 y113 y114 y115 y116 y117 y118 y119 y120 y121 y122 y123 y124 y125 y126 y127 y128 y129 y130 y131 y132 y133 y134 y135 y136 y137 y138 y139 y140 y141 y142 y143 y144 y145 y146 y147 y148 y149 y150 y151 y152 y153 y154 y155 y156 y157 y158 y159 y160 y161 y162 y163 y164 y165 y166 y167:Value} (hl:Ba' wa g1 0 L) (hr:Bx' wa g2 0 L) (re:wa.heap[be]?=some (.cells #[.string s1,.string s2] 24 (0,0))) (hM0:w.cell? ⟨1,0,none⟩=some (.int .i64 mx)) (hT0:TabAt 0 Lib.deBruijn64tab w) (hB:Below w.heap.size w wa) (h1:s1.size≤20) (h2:s2.size≤20) (eL:L.length=n) (hs:∀ z∈L,Aa' z≤250) (hn:200<n∧n≤9223372036854775807) (hm1:1≤m) (hm2:m≤12) :
   (codeAt 5 Tryz.f3).wp Tryz.prog (bodyPost Tryz.prog Tryz.f3 (At' w true)) { tmps:=#[.slice ad n c,y1,.int .i64 ((m:Nat):Int),y3,.pointer (some ⟨be,0,none⟩),y5,y6,.slice (some ⟨g1,0,none⟩) n k1,.slice (some ⟨g2,0,none⟩) n k2,y9,y10,y11,y12,y13,y14,y15,y16,y17,y18,y19,y20,y21,y22,y23,y24,y25,y26,y27,y28,y29,y30,y31,y32,y33,y34,y35,y36,y37,y38,y39,y40,y41,y42,y43,y44,y45,y46,y47,y48,y49,y50,y51,y52,y53,y54,y55,y56,y57,y58,y59,y60,y61,y62,y63,y64,y65,y66,y67,y68,y69,y70,y71,y72,y73,y74,y75,y76,y77,y78,y79,y80,y81,y82,y83,y84,y85,y86,y87,y88,y89,y90,y91,y92,y93,y94,y95,y96,y97,y98,y99,y100,y101,y102,y103,y104,y105,y106,y107,y108,y109,y110,y111,y112,y113,y114,y115,y116,y117,y118,y119,y120,y121,y122,y123,y124,y125,y126,y127,y128,y129,y130,y131,y132,y133,y134,y135,y136,y137,y138,y139,y140,y141,y142,y143,y144,y145,y146,y147,y148,y149,y150,y151,y152,y153,y154,y155,y156,y157,y158,y159,y160,y161,y162,y163,y164,y165,y166,y167],defers:=[] } wa:=by
 obtain ⟨p,ep⟩:=eY ((Ap' s1).1)
 obtain ⟨q_,eq⟩:=eY ((Ap' s2).1)
 obtain ⟨a,la⟩:=eY ((if q_<p then q_ else p))
 obtain ⟨b,lb⟩:=eY ((if q_<p then p else q_))
 have k1_:=AZ s1
 have k2_:=AZ s2
 rw [ep] at k1_
 rw [eq] at k2_
 have hab:a≤b:=by
   rw [←la,←lb]
   split
   · rename_i k;exact Rat.le_of_lt k
   · rename_i k;exact Rat.not_lt.1 k
 have sa:Aa' a≤43:=by rw [←la];split <;> omega
 have sb:Aa' b≤43:=by rw [←lb];split <;> omega
 have hs1:s1.size≤1048576:=by omega
 have hs2:s2.size≤1048576:=by omega
 clear k1_ k2_ h1 h2
 have hm12:((m:Nat):Int)≤12:=by omega
 have hn9:((n:Nat):Int)≤9223372036854775807:=by omega
 obtain ⟨o,eo⟩:=eY (0:Rat)
 replace eo:=hid eo
 replace hl:=hid hl
 replace hr:=hid hr
 replace re:=hid re
 replace hM0:=hid hM0
 replace hT0:=hid hT0
 replace hB:=hid hB
 replace eL:=hid eL
 replace hs:=hid hs
 replace ep:=hid ep
 replace eq:=hid eq
 replace la:=hid la
 replace lb:=hid lb
 replace hab:=hid hab
 replace sa:=hid sa
 replace sb:=hid sb
 replace hs1:=hid hs1
 replace hs2:=hid hs2
 replace hn:=hid hn
 replace hm1:=hid hm1
 replace hm2:=hid hm2
 show Code.wp _ (Code.seq _ _) _ _ _
 refine wp_seq_k ?_
 intro G1 hG1
 replace hG1:=hid hG1
 have hg:wa.heap[be]?=some (.cells #[.string s1,.string s2] 24 (0,0)):=((Below.refl _ wa).block _ (gE.1 re.out).1).trans re.out
 have z_e_0:wa.cell? ⟨be,0,none⟩=some (.string s1):=cR _ _ _ _ _ _ hg
 have z_e_1:wa.cell? ⟨be,1,none⟩=some (.string s2):=cR _ _ _ _ _ _ hg
 clear hg
 have HX:=hid (CH' ep.out eq.out la.out lb.out hs1.out hs2.out (Av' hM0.out hB.out))
 go_wp2_with fail
 refine (HX.out).mono ?_
 rintro e w1 ⟨va1,vb1,rfl,ha1,hb1,b1⟩
 obtain ⟨C1,j1,C2,j2,C3,j3,C4,j4,rfl,-,-,-,-⟩:=id ha1.opened
 replace ha1:=hid ha1
 obtain ⟨C5,j5,C6,j6,C7,j7,C8,j8,rfl,-,-,-,-⟩:=id hb1.opened
 replace hb1:=hid hb1
 replace b1:=hid b1
 clear HX
 clear z_e_0 z_e_1
 go_wp2_with fail
 obtain ⟨w2,hw2⟩:=eX ((w1.alloc (.cells #[.bool (decide (a.num<0)),.slice C1 (Vx.len a.num.natAbs) j1,.slice C2 (Vx.len (below a.den)) j2,.bool (decide (b.num<0)),.slice C3 (Vx.len b.num.natAbs) j3,.slice C4 (Vx.len (below b.den)) j4] 35)).alloc (.cells #[.bool (decide (a.num<0)),.slice C5 (len a.num.natAbs) j5,.slice C6 (len a.den) j6,.bool (decide (b.num<0)),.slice C7 (len b.num.natAbs) j7,.slice C8 (len b.den) j8] 41))
 obtain ⟨b2,L2,M2⟩:=D4' hw2
 rw [←hw2]
 clear hw2
 replace b2:=hid b2
 replace L2:=hid L2
 replace M2:=hid M2
 refine hG1.out _ _ ?_
 clear hG1
 show Code.wp _ (Code.seq _ _) _ _ _
 refine wp_seq_k ?_
 intro G2 hG2
 replace hG2:=hid hG2
 obtain ⟨z_s_0,z_s_1,z_s_2,z_s_3,z_s_4,z_s_5⟩:=Ae' L2.out
 have HX:=hid (CD (n:=m) (ha1.out.keep b2.out) hm1.out (show m≤256 by have:=hm2.out;omega) (nT sa.out (by omega)) (nT sb.out (by omega)))
 go_wp2_with fail
 refine (HX.out).mono ?_
 rintro e w3 ⟨Bp,rfl,hq,b3⟩
 replace hq:=hid hq
 replace b3:=hid b3
 clear HX
 clear z_s_0 z_s_1 z_s_2 z_s_3 z_s_4 z_s_5
 go_wp2_with fail
 refine hG2.out _ _ ?_
 clear hG2
 show Code.wp _ (Code.seq _ _) _ _ _
 refine wp_seq_k ?_
 intro G3 hG3
 replace hG3:=hid hG3
 obtain ⟨z_s_0,z_s_1,z_s_2,z_s_3,z_s_4,z_s_5⟩:=Ae' (Ad' L2.out b3.out)
 have y1_3:=hid (bS b2.out b3.out)
 have HX:=hid (Eb' (A:=some ⟨g1,0,none⟩) (cap:=k1) (m:=((m:Nat):Int)) eo.out (ha1.out.keep y1_3.out) hn.out.1 hn.out.2)
 go_wp2_with fail
 refine (HX.out).mono ?_
 rintro e w4 ⟨v4,rfl,hv4,b4⟩
 obtain ⟨C9,j9,C10,j10,C11,j11,C12,j12,rfl,-,-,-,-⟩:=id hv4.opened
 replace hv4:=hid hv4
 replace b4:=hid b4
 clear HX
 clear z_s_0 z_s_1 z_s_2 z_s_3 z_s_4 z_s_5
 go_wp2_with fail
 obtain ⟨w5,hw5⟩:=eX (w4.alloc (.cells #[.bool (decide (o.num<0)),.slice C9 (Vx.len o.num.natAbs) j9,.slice C10 (Vx.len (below o.den)) j10,.bool (decide (o.num<0)),.slice C11 (Vx.len o.num.natAbs) j11,.slice C12 (Vx.len (below o.den)) j12] 35))
 have b5:=hid (AC hw5)
 have L5:=hid (AI' hw5)
 rw [←hw5]
 clear hw5
 have y0_5:=hid (bS (bS (bS (bS b1.out b2.out) b3.out) b4.out) b5.out)
 have y2_5:=hid (bS (bS b3.out b4.out) b5.out)
 have y1_5:=hid (bS (bS y1_3.out b4.out) b5.out)
 have HCn:=hid (Po.mk (w:=w) (hr.out.keep y0_5.out) (Ad' M2.out y2_5.out) (hb1.out.keep y1_5.out) L5.out (hv4.out.keep b5.out) (Av' hM0.out (chain hB.out y0_5.out)) (Aq hT0.out (chain hB.out y0_5.out)) (chain hB.out y0_5.out))
 refine hG3.out _ _ ?_
 have y3_5:=hid (bS b4.out b5.out)
 exact Fr' HCn.out ⟨hm1.out,hm2.out,hab.out,sa.out,sb.out,eL.out,hs.out,Or.inr ⟨hn.out.1,hn.out.2,rfl,eo.out.symm,eo.out.symm⟩⟩ (hq.out.keep y3_5.out)
theorem FN' {w wa:World} {mx:Int} {g1 g2 be:Nat} {L:List Rat} {s1 s2:ByteArray} {ad:Option Addr} {n c k1 k2:Nat} {q:Int} {y1 y3 y5 y6 y9 y10 y11 y12 y13 y14 y15 y16 y17 y18 y19 y20 y21 y22 y23 y24 y25 y26 y27 y28 y29 y30 y31 y32 y33 y34 y35 y36 y37 y38 y39 y40 y41 y42 y43 y44 y45 y46 y47 y48 y49 y50 y51 y52 y53 y54 y55 y56 y57 y58 y59 y60 y61 y62 y63 y64 y65 y66 y67 y68 y69 y70 y71 y72 y73 y74 y75 y76 y77 y78 y79 y80 y81 y82 y83 y84 y85 y86 y87 y88 y89 y90 y91 y92 y93 y94 y95 y96 y97 y98 y99 y100 y101 y102 y103 y104 y105 y106 y107 y108 y109 y110 y111 y112 y113 y114 y115 y116 y117 y118 y119 y120 y121 y122 y123 y124 y125 y126 y127 y128 y129 y130 y131 y132 y133 y134 y135 y136 y137 y138 y139 y140 y141 y142 y143 y144 y145 y146 y147 y148 y149 y150 y151 y152 y153 y154 y155 y156 y157 y158 y159 y160 y161 y162 y163 y164 y165 y166 y167:Value} (hl:Ba' wa g1 0 L) (hr:Bx' wa g2 0 L) (re:wa.heap[be]?=some (.cells #[.string s1,.string s2] 24 (0,0))) (hM0:w.cell? ⟨1,0,none⟩=some (.int .i64 mx)) (hT0:TabAt 0 Lib.deBruijn64tab w) (hB:Below w.heap.size w wa) (h1:s1.size≤20) (h2:s2.size≤20) (eL:L.length=n) (hs:∀ z∈L,Aa' z≤250) (hn:n≤8) (h:q<1∨256<q) :
   (codeAt 5 Tryz.f3).wp Tryz.prog (bodyPost Tryz.prog Tryz.f3 (At' w true)) { tmps:=#[.slice ad n c,y1,.int .i64 q,y3,.pointer (some ⟨be,0,none⟩),y5,y6,.slice (some ⟨g1,0,none⟩) n k1,.slice (some ⟨g2,0,none⟩) n k2,y9,y10,y11,y12,y13,y14,y15,y16,y17,y18,y19,y20,y21,y22,y23,y24,y25,y26,y27,y28,y29,y30,y31,y32,y33,y34,y35,y36,y37,y38,y39,y40,y41,y42,y43,y44,y45,y46,y47,y48,y49,y50,y51,y52,y53,y54,y55,y56,y57,y58,y59,y60,y61,y62,y63,y64,y65,y66,y67,y68,y69,y70,y71,y72,y73,y74,y75,y76,y77,y78,y79,y80,y81,y82,y83,y84,y85,y86,y87,y88,y89,y90,y91,y92,y93,y94,y95,y96,y97,y98,y99,y100,y101,y102,y103,y104,y105,y106,y107,y108,y109,y110,y111,y112,y113,y114,y115,y116,y117,y118,y119,y120,y121,y122,y123,y124,y125,y126,y127,y128,y129,y130,y131,y132,y133,y134,y135,y136,y137,y138,y139,y140,y141,y142,y143,y144,y145,y146,y147,y148,y149,y150,y151,y152,y153,y154,y155,y156,y157,y158,y159,y160,y161,y162,y163,y164,y165,y166,y167],defers:=[] } wa:=by
 obtain ⟨p,ep⟩:=eY ((Ap' s1).1)
 obtain ⟨q_,eq⟩:=eY ((Ap' s2).1)
 obtain ⟨a,la⟩:=eY ((if q_<p then q_ else p))
 obtain ⟨b,lb⟩:=eY ((if q_<p then p else q_))
 have k1_:=AZ s1
 have k2_:=AZ s2
 rw [ep] at k1_
 rw [eq] at k2_
 have hab:a≤b:=by
   rw [←la,←lb]
   split
   · rename_i k;exact Rat.le_of_lt k
   · rename_i k;exact Rat.not_lt.1 k
 have sa:Aa' a≤43:=by rw [←la];split <;> omega
 have sb:Aa' b≤43:=by rw [←lb];split <;> omega
 have hs1:s1.size≤1048576:=by omega
 have hs2:s2.size≤1048576:=by omega
 clear k1_ k2_ h1 h2
 have hn9:((n:Nat):Int)≤9223372036854775807:=by omega
 obtain ⟨o,eo⟩:=eY (0:Rat)
 replace eo:=hid eo
 replace hl:=hid hl
 replace hr:=hid hr
 replace re:=hid re
 replace hM0:=hid hM0
 replace hT0:=hid hT0
 replace hB:=hid hB
 replace eL:=hid eL
 replace hs:=hid hs
 replace ep:=hid ep
 replace eq:=hid eq
 replace la:=hid la
 replace lb:=hid lb
 replace hab:=hid hab
 replace sa:=hid sa
 replace sb:=hid sb
 replace hs1:=hid hs1
 replace hs2:=hid hs2
 replace hn:=hid hn
 replace h:=hid h
 show Code.wp _ (Code.seq _ _) _ _ _
 refine wp_seq_k ?_
 intro G1 hG1
 replace hG1:=hid hG1
 have hg:wa.heap[be]?=some (.cells #[.string s1,.string s2] 24 (0,0)):=((Below.refl _ wa).block _ (gE.1 re.out).1).trans re.out
 have z_e_0:wa.cell? ⟨be,0,none⟩=some (.string s1):=cR _ _ _ _ _ _ hg
 have z_e_1:wa.cell? ⟨be,1,none⟩=some (.string s2):=cR _ _ _ _ _ _ hg
 clear hg
 have HX:=hid (CH' ep.out eq.out la.out lb.out hs1.out hs2.out (Av' hM0.out hB.out))
 go_wp2_with fail
 refine (HX.out).mono ?_
 rintro e w1 ⟨va1,vb1,rfl,ha1,hb1,b1⟩
 obtain ⟨C1,j1,C2,j2,C3,j3,C4,j4,rfl,-,-,-,-⟩:=id ha1.opened
 replace ha1:=hid ha1
 obtain ⟨C5,j5,C6,j6,C7,j7,C8,j8,rfl,-,-,-,-⟩:=id hb1.opened
 replace hb1:=hid hb1
 replace b1:=hid b1
 clear HX
 clear z_e_0 z_e_1
 go_wp2_with fail
 obtain ⟨w2,hw2⟩:=eX ((w1.alloc (.cells #[.bool (decide (a.num<0)),.slice C1 (Vx.len a.num.natAbs) j1,.slice C2 (Vx.len (below a.den)) j2,.bool (decide (b.num<0)),.slice C3 (Vx.len b.num.natAbs) j3,.slice C4 (Vx.len (below b.den)) j4] 35)).alloc (.cells #[.bool (decide (a.num<0)),.slice C5 (len a.num.natAbs) j5,.slice C6 (len a.den) j6,.bool (decide (b.num<0)),.slice C7 (len b.num.natAbs) j7,.slice C8 (len b.den) j8] 41))
 obtain ⟨b2,L2,M2⟩:=D4' hw2
 rw [←hw2]
 clear hw2
 replace b2:=hid b2
 replace L2:=hid L2
 replace M2:=hid M2
 refine hG1.out _ _ ?_
 clear hG1
 show Code.wp _ (Code.seq _ _) _ _ _
 refine wp_seq_k ?_
 intro G2 hG2
 replace hG2:=hid hG2
 obtain ⟨z_s_0,z_s_1,z_s_2,z_s_3,z_s_4,z_s_5⟩:=Ae' L2.out
 have HX:=hid (DQ' (ha1.out.keep b2.out) h.out)
 go_wp2_with fail
 refine (HX.out).mono ?_
 rintro e w3 ⟨rfl,b3⟩
 replace b3:=hid b3
 clear HX
 clear z_s_0 z_s_1 z_s_2 z_s_3 z_s_4 z_s_5
 go_wp2_with fail
 refine hG2.out _ _ ?_
 clear hG2
 show Code.wp _ (Code.seq _ _) _ _ _
 refine wp_seq_k ?_
 intro G3 hG3
 replace hG3:=hid hG3
 obtain ⟨z_s_0,z_s_1,z_s_2,z_s_3,z_s_4,z_s_5⟩:=Ae' (Ad' L2.out b3.out)
 have y1_3:=hid (bS b2.out b3.out)
 have HX:=hid (FM (A:=some ⟨g1,0,none⟩) (cap:=k1) (m:=q) eo.out (ha1.out.keep y1_3.out) (nT hn.out (by omega)) h.out)
 go_wp2_with fail
 refine (HX.out).mono ?_
 rintro e w4 ⟨v4,rfl,hv4,b4⟩
 obtain ⟨C9,j9,C10,j10,C11,j11,C12,j12,rfl,-,-,-,-⟩:=id hv4.opened
 replace hv4:=hid hv4
 replace b4:=hid b4
 clear HX
 clear z_s_0 z_s_1 z_s_2 z_s_3 z_s_4 z_s_5
 go_wp2_with fail
 obtain ⟨w5,hw5⟩:=eX (w4.alloc (.cells #[.bool (decide (o.num<0)),.slice C9 (Vx.len o.num.natAbs) j9,.slice C10 (Vx.len (below o.den)) j10,.bool (decide (o.num<0)),.slice C11 (Vx.len o.num.natAbs) j11,.slice C12 (Vx.len (below o.den)) j12] 35))
 have b5:=hid (AC hw5)
 have L5:=hid (AI' hw5)
 rw [←hw5]
 clear hw5
 have y0_5:=hid (bS (bS (bS (bS b1.out b2.out) b3.out) b4.out) b5.out)
 have y2_5:=hid (bS (bS b3.out b4.out) b5.out)
 have y1_5:=hid (bS (bS y1_3.out b4.out) b5.out)
 have HCn:=hid (Po.mk (w:=w) (hr.out.keep y0_5.out) (Ad' M2.out y2_5.out) (hb1.out.keep y1_5.out) L5.out (hv4.out.keep b5.out) (Av' hM0.out (chain hB.out y0_5.out)) (Aq hT0.out (chain hB.out y0_5.out)) (chain hB.out y0_5.out))
 refine hG3.out _ _ ?_
 exact GD' HCn.out h.out (nT hn.out (by omega)) eo.out.symm eo.out.symm
theorem FO {w wa:World} {mx:Int} {g1 g2 be:Nat} {L:List Rat} {s1 s2:ByteArray} {ad:Option Addr} {n c k1 k2:Nat} {q:Int} {y1 y3 y5 y6 y9 y10 y11 y12 y13 y14 y15 y16 y17 y18 y19 y20 y21 y22 y23 y24 y25 y26 y27 y28 y29 y30 y31 y32 y33 y34 y35 y36 y37 y38 y39 y40 y41 y42 y43 y44 y45 y46 y47 y48 y49 y50 y51 y52 y53 y54 y55 y56 y57 y58 y59 y60 y61 y62 y63 y64 y65 y66 y67 y68 y69 y70 y71 y72 y73 y74 y75 y76 y77 y78 y79 y80 y81 y82 y83 y84 y85 y86 y87 y88 y89 y90 y91 y92 y93 y94 y95 y96 y97 y98 y99 y100 y101 y102 y103 y104 y105 y106 y107 y108 y109 y110 y111 y112 y113 y114 y115 y116 y117 y118 y119 y120 y121 y122 y123 y124 y125 y126 y127 y128 y129 y130 y131 y132 y133 y134 y135 y136 y137 y138 y139 y140 y141 y142 y143 y144 y145 y146 y147 y148 y149 y150 y151 y152 y153 y154 y155 y156 y157 y158 y159 y160 y161 y162 y163 y164 y165 y166 y167:Value} (hl:Ba' wa g1 0 L) (hr:Bx' wa g2 0 L) (re:wa.heap[be]?=some (.cells #[.string s1,.string s2] 24 (0,0))) (hM0:w.cell? ⟨1,0,none⟩=some (.int .i64 mx)) (hT0:TabAt 0 Lib.deBruijn64tab w) (hB:Below w.heap.size w wa) (h1:s1.size≤20) (h2:s2.size≤20) (eL:L.length=n) (hs:∀ z∈L,Aa' z≤250) (hn:200<n∧n≤9223372036854775807) (h:q<1∨256<q) :
   (codeAt 5 Tryz.f3).wp Tryz.prog (bodyPost Tryz.prog Tryz.f3 (At' w true)) { tmps:=#[.slice ad n c,y1,.int .i64 q,y3,.pointer (some ⟨be,0,none⟩),y5,y6,.slice (some ⟨g1,0,none⟩) n k1,.slice (some ⟨g2,0,none⟩) n k2,y9,y10,y11,y12,y13,y14,y15,y16,y17,y18,y19,y20,y21,y22,y23,y24,y25,y26,y27,y28,y29,y30,y31,y32,y33,y34,y35,y36,y37,y38,y39,y40,y41,y42,y43,y44,y45,y46,y47,y48,y49,y50,y51,y52,y53,y54,y55,y56,y57,y58,y59,y60,y61,y62,y63,y64,y65,y66,y67,y68,y69,y70,y71,y72,y73,y74,y75,y76,y77,y78,y79,y80,y81,y82,y83,y84,y85,y86,y87,y88,y89,y90,y91,y92,y93,y94,y95,y96,y97,y98,y99,y100,y101,y102,y103,y104,y105,y106,y107,y108,y109,y110,y111,y112,y113,y114,y115,y116,y117,y118,y119,y120,y121,y122,y123,y124,y125,y126,y127,y128,y129,y130,y131,y132,y133,y134,y135,y136,y137,y138,y139,y140,y141,y142,y143,y144,y145,y146,y147,y148,y149,y150,y151,y152,y153,y154,y155,y156,y157,y158,y159,y160,y161,y162,y163,y164,y165,y166,y167],defers:=[] } wa:=by
 obtain ⟨p,ep⟩:=eY ((Ap' s1).1)
 obtain ⟨q_,eq⟩:=eY ((Ap' s2).1)
 obtain ⟨a,la⟩:=eY ((if q_<p then q_ else p))
 obtain ⟨b,lb⟩:=eY ((if q_<p then p else q_))
 have k1_:=AZ s1
 have k2_:=AZ s2
 rw [ep] at k1_
 rw [eq] at k2_
 have hab:a≤b:=by
   rw [←la,←lb]
   split
   · rename_i k;exact Rat.le_of_lt k
   · rename_i k;exact Rat.not_lt.1 k
 have sa:Aa' a≤43:=by rw [←la];split <;> omega
 have sb:Aa' b≤43:=by rw [←lb];split <;> omega
 have hs1:s1.size≤1048576:=by omega
 have hs2:s2.size≤1048576:=by omega
 clear k1_ k2_ h1 h2
 have hn9:((n:Nat):Int)≤9223372036854775807:=by omega
 obtain ⟨o,eo⟩:=eY (0:Rat)
 replace eo:=hid eo
 replace hl:=hid hl
 replace hr:=hid hr
 replace re:=hid re
 replace hM0:=hid hM0
 replace hT0:=hid hT0
 replace hB:=hid hB
 replace eL:=hid eL
 replace hs:=hid hs
 replace ep:=hid ep
 replace eq:=hid eq
 replace la:=hid la
 replace lb:=hid lb
 replace hab:=hid hab
 replace sa:=hid sa
 replace sb:=hid sb
 replace hs1:=hid hs1
 replace hs2:=hid hs2
 replace hn:=hid hn
 replace h:=hid h
 show Code.wp _ (Code.seq _ _) _ _ _
 refine wp_seq_k ?_
 intro G1 hG1
 replace hG1:=hid hG1
 have hg:wa.heap[be]?=some (.cells #[.string s1,.string s2] 24 (0,0)):=((Below.refl _ wa).block _ (gE.1 re.out).1).trans re.out
 have z_e_0:wa.cell? ⟨be,0,none⟩=some (.string s1):=cR _ _ _ _ _ _ hg
 have z_e_1:wa.cell? ⟨be,1,none⟩=some (.string s2):=cR _ _ _ _ _ _ hg
 clear hg
 have HX:=hid (CH' ep.out eq.out la.out lb.out hs1.out hs2.out (Av' hM0.out hB.out))
 go_wp2_with fail
 refine (HX.out).mono ?_
 rintro e w1 ⟨va1,vb1,rfl,ha1,hb1,b1⟩
 obtain ⟨C1,j1,C2,j2,C3,j3,C4,j4,rfl,-,-,-,-⟩:=id ha1.opened
 replace ha1:=hid ha1
 obtain ⟨C5,j5,C6,j6,C7,j7,C8,j8,rfl,-,-,-,-⟩:=id hb1.opened
 replace hb1:=hid hb1
 replace b1:=hid b1
 clear HX
 clear z_e_0 z_e_1
 go_wp2_with fail
 obtain ⟨w2,hw2⟩:=eX ((w1.alloc (.cells #[.bool (decide (a.num<0)),.slice C1 (Vx.len a.num.natAbs) j1,.slice C2 (Vx.len (below a.den)) j2,.bool (decide (b.num<0)),.slice C3 (Vx.len b.num.natAbs) j3,.slice C4 (Vx.len (below b.den)) j4] 35)).alloc (.cells #[.bool (decide (a.num<0)),.slice C5 (len a.num.natAbs) j5,.slice C6 (len a.den) j6,.bool (decide (b.num<0)),.slice C7 (len b.num.natAbs) j7,.slice C8 (len b.den) j8] 41))
 obtain ⟨b2,L2,M2⟩:=D4' hw2
 rw [←hw2]
 clear hw2
 replace b2:=hid b2
 replace L2:=hid L2
 replace M2:=hid M2
 refine hG1.out _ _ ?_
 clear hG1
 show Code.wp _ (Code.seq _ _) _ _ _
 refine wp_seq_k ?_
 intro G2 hG2
 replace hG2:=hid hG2
 obtain ⟨z_s_0,z_s_1,z_s_2,z_s_3,z_s_4,z_s_5⟩:=Ae' L2.out
 have HX:=hid (DQ' (ha1.out.keep b2.out) h.out)
 go_wp2_with fail
 refine (HX.out).mono ?_
 rintro e w3 ⟨rfl,b3⟩
 replace b3:=hid b3
 clear HX
 clear z_s_0 z_s_1 z_s_2 z_s_3 z_s_4 z_s_5
 go_wp2_with fail
 refine hG2.out _ _ ?_
 clear hG2
 show Code.wp _ (Code.seq _ _) _ _ _
 refine wp_seq_k ?_
 intro G3 hG3
 replace hG3:=hid hG3
 obtain ⟨z_s_0,z_s_1,z_s_2,z_s_3,z_s_4,z_s_5⟩:=Ae' (Ad' L2.out b3.out)
 have y1_3:=hid (bS b2.out b3.out)
 have HX:=hid (Eb' (A:=some ⟨g1,0,none⟩) (cap:=k1) (m:=q) eo.out (ha1.out.keep y1_3.out) hn.out.1 hn.out.2)
 go_wp2_with fail
 refine (HX.out).mono ?_
 rintro e w4 ⟨v4,rfl,hv4,b4⟩
 obtain ⟨C9,j9,C10,j10,C11,j11,C12,j12,rfl,-,-,-,-⟩:=id hv4.opened
 replace hv4:=hid hv4
 replace b4:=hid b4
 clear HX
 clear z_s_0 z_s_1 z_s_2 z_s_3 z_s_4 z_s_5
 go_wp2_with fail
 obtain ⟨w5,hw5⟩:=eX (w4.alloc (.cells #[.bool (decide (o.num<0)),.slice C9 (Vx.len o.num.natAbs) j9,.slice C10 (Vx.len (below o.den)) j10,.bool (decide (o.num<0)),.slice C11 (Vx.len o.num.natAbs) j11,.slice C12 (Vx.len (below o.den)) j12] 35))
 have b5:=hid (AC hw5)
 have L5:=hid (AI' hw5)
 rw [←hw5]
 clear hw5
 have y0_5:=hid (bS (bS (bS (bS b1.out b2.out) b3.out) b4.out) b5.out)
 have y2_5:=hid (bS (bS b3.out b4.out) b5.out)
 have y1_5:=hid (bS (bS y1_3.out b4.out) b5.out)
 have HCn:=hid (Po.mk (w:=w) (hr.out.keep y0_5.out) (Ad' M2.out y2_5.out) (hb1.out.keep y1_5.out) L5.out (hv4.out.keep b5.out) (Av' hM0.out (chain hB.out y0_5.out)) (Aq hT0.out (chain hB.out y0_5.out)) (chain hB.out y0_5.out))
 refine hG3.out _ _ ?_
 exact GD HCn.out h.out hn.out.1 eo.out.symm eo.out.symm
theorem HC' {w wa:World} {mx:Int} {g1 g2 be:Nat} {L:List Rat} {s1 s2:ByteArray} {ad:Option Addr} {n c k1 k2:Nat} {q:Int} {y1 y3 y5 y6 y9 y10 y11 y12 y13 y14 y15 y16 y17 y18 y19 y20 y21 y22 y23 y24 y25 y26 y27 y28 y29 y30 y31 y32 y33 y34 y35 y36 y37 y38 y39 y40 y41 y42 y43 y44 y45 y46 y47 y48 y49 y50 y51 y52 y53 y54 y55 y56 y57 y58 y59 y60 y61 y62 y63 y64 y65 y66 y67 y68 y69 y70 y71 y72 y73 y74 y75 y76 y77 y78 y79 y80 y81 y82 y83 y84 y85 y86 y87 y88 y89 y90 y91 y92 y93 y94 y95 y96 y97 y98 y99 y100 y101 y102 y103 y104 y105 y106 y107 y108 y109 y110 y111 y112 y113 y114 y115 y116 y117 y118 y119 y120 y121 y122 y123 y124 y125 y126 y127 y128 y129 y130 y131 y132 y133 y134 y135 y136 y137 y138 y139 y140 y141 y142 y143 y144 y145 y146 y147 y148 y149 y150 y151 y152 y153 y154 y155 y156 y157 y158 y159 y160 y161 y162 y163 y164 y165 y166 y167:Value} (hl:Ba' wa g1 0 L) (hr:Bx' wa g2 0 L) (re:wa.heap[be]?=some (.cells #[.string s1,.string s2] 24 (0,0))) (hM0:w.cell? ⟨1,0,none⟩=some (.int .i64 mx)) (hT0:TabAt 0 Lib.deBruijn64tab w) (hB:Below w.heap.size w wa) (h1:s1.size≤20) (h2:s2.size≤20) (eL:L.length=n) (hs:∀ z∈L,Aa' z≤250) (hn:n≤8∨200<n) (hn2:n≤9223372036854775807) (h:q≤12∨256<q) :
   (codeAt 5 Tryz.f3).wp Tryz.prog (bodyPost Tryz.prog Tryz.f3 (At' w true)) { tmps:=#[.slice ad n c,y1,.int .i64 q,y3,.pointer (some ⟨be,0,none⟩),y5,y6,.slice (some ⟨g1,0,none⟩) n k1,.slice (some ⟨g2,0,none⟩) n k2,y9,y10,y11,y12,y13,y14,y15,y16,y17,y18,y19,y20,y21,y22,y23,y24,y25,y26,y27,y28,y29,y30,y31,y32,y33,y34,y35,y36,y37,y38,y39,y40,y41,y42,y43,y44,y45,y46,y47,y48,y49,y50,y51,y52,y53,y54,y55,y56,y57,y58,y59,y60,y61,y62,y63,y64,y65,y66,y67,y68,y69,y70,y71,y72,y73,y74,y75,y76,y77,y78,y79,y80,y81,y82,y83,y84,y85,y86,y87,y88,y89,y90,y91,y92,y93,y94,y95,y96,y97,y98,y99,y100,y101,y102,y103,y104,y105,y106,y107,y108,y109,y110,y111,y112,y113,y114,y115,y116,y117,y118,y119,y120,y121,y122,y123,y124,y125,y126,y127,y128,y129,y130,y131,y132,y133,y134,y135,y136,y137,y138,y139,y140,y141,y142,y143,y144,y145,y146,y147,y148,y149,y150,y151,y152,y153,y154,y155,y156,y157,y158,y159,y160,y161,y162,y163,y164,y165,y166,y167],defers:=[] } wa:=by
 rcases Decidable.em (1≤q∧q≤12) with k | k
 · obtain ⟨m,rfl⟩:∃ m:Nat,q=(m:Int):=⟨q.toNat,by omega⟩
   rcases hn with hn | hn
   · exact FM' hl hr re hM0 hT0 hB h1 h2 eL hs hn (by omega) (by omega)
   · exact FN hl hr re hM0 hT0 hB h1 h2 eL hs ⟨hn,hn2⟩ (by omega) (by omega)
 · rcases hn with hn | hn
   · exact FN' hl hr re hM0 hT0 hB h1 h2 eL hs hn (by omega)
   · exact FO hl hr re hM0 hT0 hB h1 h2 eL hs ⟨hn,hn2⟩ (by omega)
end Go.Proofs.YtbigkkjnhcpgiaaGreatDoor.Rf
