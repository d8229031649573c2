/-
  Contracts of the functions that the law calls, for every input (Wf Wg Wa Wd).
-/
import Derived.Test.YtbigkkjnhcpgiaaGreatDoorQ00
import Derived.Test.YtbigkkjnhcpgiaaGreatDoorQ44
import Derived.Test.YtbigkkjnhcpgiaaGreatDoorQ39
import Derived.Test.YtbigkkjnhcpgiaaGreatDoorQ23
import Derived.Test.YtbigkkjnhcpgiaaGreatDoorQ45
import Derived.Test.YtbigkkjnhcpgiaaGreatDoorQ42
import Derived.Test.YtbigkkjnhcpgiaaGreatDoorQ38
import Derived.Test.YtbigkkjnhcpgiaaGreatDoorQ22
import Derived.Test.YtbigkkjnhcpgiaaGreatDoorQ21
import Derived.Test.YtbigkkjnhcpgiaaGreatDoorQ41
import Derived.Test.YtbigkkjnhcpgiaaGreatDoorQ10
set_option linter.all false
set_option maxRecDepth 100000
set_option maxHeartbeats 40000000
namespace Go.Proofs.YtbigkkjnhcpgiaaGreatDoor.Rf
open Lib (hid)
open Go.RowKit
open Rx
open Vx (Aa' Al' Am)
open List renaming getElem?_toArray → lg, getElem?_cons_zero → lz, getElem?_cons_succ → ls, setIfInBounds_toArray → lt, set_cons_zero → ly, set_cons_succ → lu
structure Po (w wa:World) (mx:Int) (g2 bp bv:Nat) (P1 P2 P3 P4 V1 V2 V3 V4:Option Addr) (r1 r2 r3 r4 v1 v2 v3 v4:Nat) (a b x y:Rat) (L:List Rat):Prop where
  rl:Bx' wa g2 0 L
  rp:wa.heap[bp]?=some (.cells #[.bool (decide (a.num<0)),.slice P1 (len a.num.natAbs) r1,.slice P2 (len a.den) r2,.bool (decide (b.num<0)),.slice P3 (len b.num.natAbs) r3,.slice P4 (len b.den) r4] 41 (0,0))
  hp:Aw wa (.agg #[.bool (decide (a.num<0)),.slice P1 (len a.num.natAbs) r1,.slice P2 (len a.den) r2,.bool (decide (b.num<0)),.slice P3 (len b.num.natAbs) r3,.slice P4 (len b.den) r4]) a b
  rv:wa.heap[bv]?=some (.cells #[.bool (decide (x.num<0)),.slice V1 (Vx.len x.num.natAbs) v1,.slice V2 (Vx.len (below x.den)) v2,.bool (decide (y.num<0)),.slice V3 (Vx.len y.num.natAbs) v3,.slice V4 (Vx.len (below y.den)) v4] 35 (0,0))
  hv:Ao' wa (.agg #[.bool (decide (x.num<0)),.slice V1 (Vx.len x.num.natAbs) v1,.slice V2 (Vx.len (below x.den)) v2,.bool (decide (y.num<0)),.slice V3 (Vx.len y.num.natAbs) v3,.slice V4 (Vx.len (below y.den)) v4]) x y
  hM:wa.cell? ⟨1,0,none⟩=some (.int .i64 mx)
  hT:TabAt 0 Lib.deBruijn64tab wa
  hB:Below w.heap.size w wa
theorem Po.keep {w wa:World} {mx:Int} {g2 bp bv:Nat} {P1 P2 P3 P4 V1 V2 V3 V4:Option Addr} {r1 r2 r3 r4 v1 v2 v3 v4:Nat} {a b x y:Rat} {L:List Rat} {v:World} (h:Po w wa mx g2 bp bv P1 P2 P3 P4 V1 V2 V3 V4 r1 r2 r3 r4 v1 v2 v3 v4 a b x y L) (hb:Below wa.heap.size wa v):Po w v mx g2 bp bv P1 P2 P3 P4 V1 V2 V3 V4 r1 r2 r3 r4 v1 v2 v3 v4 a b x y L :=
 ⟨h.rl.keep hb,Ad' h.rp hb,h.hp.keep hb,Ad' h.rv hb,h.hv.keep hb,Av' h.hM hb,Aq h.hT hb,chain h.hB hb⟩
theorem Dq {a b:Rat} {n i:Nat} (ha:Aa' a≤43) (hb:Aa' b≤43) (hn:n≤1000) (hi:i≤1000):Aa' (Az a b n i)≤250:=by
 unfold Az
 have e1:Aa' ((n:Nat):Rat)≤2:=by have:=Go.Proofs.YtbigkkjnhcpgiaaGreatDoor.Bn (i:=n) hn;rwa [Rat.intCast_natCast] at this
 have e2:Aa' ((i:Nat):Rat)≤2:=by have:=Go.Proofs.YtbigkkjnhcpgiaaGreatDoor.Bn (i:=i) hi;rwa [Rat.intCast_natCast] at this
 have k1:=Vx.CN b a
 have k2:=Vx.Cc' (b - a) ((n:Nat):Rat)
 have k3:=Vx.AG ((b - a) / ((n:Nat):Rat)) ((i:Nat):Rat)
 have k4:=Vx.Ct' a ((b - a) / ((n:Nat):Rat)*((i:Nat):Rat))
 omega
theorem GB {a b:Rat} {m:Nat} {l:List Rat} (ha:Aa' a≤43) (hb:Aa' b≤43) (hm:m≤256) (hl:l.length≤8) (hs:∀ y∈l,Aa' y≤250):Aa' (Bl' a b m l).1≤4100∧Aa' (Bl' a b m l).2≤4100:=by
 refine Da fun i hi=>?_
 have:=Dp (p:=(Az a b m i,Az a b m (i+1))) (M:=250) (Dq ha hb (by omega) (by omega)) (Dq ha hb (by omega) (by omega)) l hs
 have h2:=Nat.mul_le_mul_right (250+250+1) hl
 unfold As'
 omega
theorem IC' {w wa:World} {mx:Int} {g2 bp bv:Nat} {P1 P2 P3 P4 V1 V2 V3 V4:Option Addr} {r1 r2 r3 r4 v1 v2 v3 v4:Nat} {a b x y:Rat} {L:List Rat} {ad:Option Addr} {n m c k2:Nat} {y1 y3 y4 y5 y6 y7 y9 y10 y11 y13 y14 y17 y18 y19 y20 y21 y22 y23 y24 y25 y26 y27 y28 y29 y30 y31 y32 y33 y34 y35 y36 y37 y38 y39 y40 y41 y42 y43 y44 y45 y46 y47 y48 y49 y50 y51 y52 y53 y54 y55 y56 y57 y58 y59 y60 y61 y62 y63 y64 y65 y66 y67 y68 y69 y70 y71 y72 y73 y74 y75 y76 y77 y78 y79 y80 y81 y82 y83 y84 y85 y86 y87 y88 y89 y90 y91 y92 y93 y94 y95 y96 y97 y98 y99 y100 y101 y102 y103 y104 y105 y106 y107 y108 y109 y110 y111 y112 y113 y114 y115 y116 y117 y118 y119 y120 y121 y122 y123 y124 y125 y126 y127 y128 y129 y130 y131 y132 y133 y134 y135 y136 y137 y138 y139 y140 y141 y142 y143 y144 y145 y146 y147 y148 y149 y150 y151 y152 y153 y154 y155 y156 y157 y158 y159 y160 y161 y162 y163 y164 y165 y166 y167:Value} (HC:Po w wa mx g2 bp bv P1 P2 P3 P4 V1 V2 V3 V4 r1 r2 r3 r4 v1 v2 v3 v4 a b x y L) (eL:L.length=n) (hn:n≤8) (hm1:1≤m) (hm2:m≤12) (hab:a≤b) (ex:(Bl' a b m L).1=x) (ey:(Bl' a b m L).2=y) (sa:Aa' a≤43) (sb:Aa' b≤43) (hs:∀ z∈L,Aa' z≤250) :
   (codeAt 12 Tryz.f3).wp Tryz.prog (bodyPost Tryz.prog Tryz.f3 (At' w true)) { tmps:=#[.slice ad n c,y1,.int .i64 ((m:Nat):Int),y3,y4,y5,y6,y7,.slice (some ⟨g2,0,none⟩) n k2,y9,y10,y11,.pointer (some ⟨bp,0,none⟩),y13,y14,.pointer (some ⟨bv,0,none⟩),.int .i64 0,y17,y18,y19,y20,y21,y22,y23,y24,y25,y26,y27,y28,y29,y30,y31,y32,y33,y34,y35,y36,y37,y38,y39,y40,y41,y42,y43,y44,y45,y46,y47,y48,y49,y50,y51,y52,y53,y54,y55,y56,y57,y58,y59,y60,y61,y62,y63,y64,y65,y66,y67,y68,y69,y70,y71,y72,y73,y74,y75,y76,y77,y78,y79,y80,y81,y82,y83,y84,y85,y86,y87,y88,y89,y90,y91,y92,y93,y94,y95,y96,y97,y98,y99,y100,y101,y102,y103,y104,y105,y106,y107,y108,y109,y110,y111,y112,y113,y114,y115,y116,y117,y118,y119,y120,y121,y122,y123,y124,y125,y126,y127,y128,y129,y130,y131,y132,y133,y134,y135,y136,y137,y138,y139,y140,y141,y142,y143,y144,y145,y146,y147,y148,y149,y150,y151,y152,y153,y154,y155,y156,y157,y158,y159,y160,y161,y162,y163,y164,y165,y166,y167],defers:=[] } wa:=by
 have d1:decide (((n:Nat):Int)>200)=false:=dF_ (by omega)
 have d1':¬ (((n:Nat):Int)>200):=by omega
 obtain ⟨t1,t2⟩:=GB (m:=m) sa sb (show m≤256 by omega) (show L.length≤8 by omega) hs
 rw [ex] at t1
 rw [ey] at t2
 have hs2:∀ z∈L,Aa' z≤1000:=fun z hz=>nT (hs z hz) (by omega)
 have sa2:=hid (show Aa' a≤100 by omega)
 have sb2:=hid (show Aa' b≤100 by omega)
 clear hs sa sb
 replace HC:=hid HC
 replace eL:=hid eL
 replace hab:=hid hab
 replace ex:=hid ex
 replace ey:=hid ey
 replace t1:=hid t1
 replace t2:=hid t2
 replace hs2:=hid hs2
 replace hn:=hid hn
 replace hm1:=hid hm1
 replace hm2:=hid hm2
 have HBp:=hid HC.out.hp
 have HRp:=hid HC.out.rp
 have HBv:=hid HC.out.hv
 have HRv:=hid HC.out.rv
 show Code.wp _ (Code.seq _ _) _ _ _
 go_upto_region 29 with fail
 go_wp2_with fail
 obtain ⟨NNa,hNN⟩:=eY (wa.heap.size:Nat)
 have HSZa:Hid (wa.heap.size=NNa):=hNN
 obtain ⟨z_v_0,z_v_1,z_v_2,z_v_3,z_v_4,z_v_5⟩:=Ae' HRv.out
 have hlta_v:bv<NNa:=Nat.lt_of_lt_of_eq (bL _ _ z_v_0) hNN
 obtain ⟨z_p_0,z_p_1,z_p_2,z_p_3,z_p_4,z_p_5⟩:=Ae' HRp.out
 have hlta_p:bp<NNa:=Nat.lt_of_lt_of_eq (bL _ _ z_p_0) hNN
 have H0:=Af.start wa NNa
 have H0':=H0
 unfold Af at H0'
 refine wp_region_held_drew (S:=(fun w'=>(∀ b o,b<NNa→w'.cell? ⟨b,o,none⟩=wa.cell? ⟨b,o,none⟩)∧Below (NNa) wa w'∧Aj wa w')) (by kernel_rfl) ?_ (fun hHeld=>?_)
 · (try dsimp only)
   exact H0'
 obtain ⟨w1,hw1⟩:=eX wa.drew
 have b1:Hid (Below wa.heap.size wa w1):=by rw [hw1];exact ⟨rfl,rfl,rfl,nL _,fun _ _=>rfl⟩
 rw [←hw1] at hHeld H0 ⊢
 clear hw1 H0' hNN
 refine tk (i:=0) (h:=?_)
 try simp only [Act.put,lt,ly,lu]
 refine tk (i:=1) (h:=?_)
 try simp only [Act.put,lt,ly,lu]
 refine tk (i:=2) (h:=?_)
 try simp only [Act.put,lt,ly,lu]
 refine tk (i:=3) (h:=?_)
 try simp only [Act.put,lt,ly,lu]
 refine tk (i:=4) (h:=?_)
 try simp only [Act.put,lt,ly,lu]
 refine tk (i:=5) (h:=?_)
 try simp only [Act.put,lt,ly,lu]
 refine tk (i:=6) (h:=?_)
 try simp only [Act.put,lt,ly,lu]
 refine rd (i:=7) (h:=fun K hK=>?_);go_simp;go_at_call 12
 refine (Hz' (HC.out.keep b1.out).rl (HBp.out.keep b1.out) eL.out hab.out ex.out ey.out hn.out hm1.out hm2.out sa2.out sb2.out hs2.out).mono ?_
 rintro e w2 ⟨v2,rfl,hv2,b2⟩
 obtain ⟨C1,j1,C2,j2,C3,j3,C4,j4,rfl,-,-,-,-⟩:=id hv2.opened
 replace hv2:=hid hv2
 replace b2:=hid b2
 have hk2:=Gu H0 HSZa b2.out;clear hHeld H0
 refine hK.out _ _ (by (try dsimp only);with_reducible exact hun hk2) (fun hHeld=>?_)
 clear hK K;try simp only [Act.put,lt,ly,lu]
 have y0_2:=hid (bS b1.out b2.out)
 refine rd (i:=8) (h:=fun K hK=>?_);go_simp;go_at_call 11
 refine (DE' (HBv.out.keep y0_2.out) hv2.out t1.out t2.out (HC.out.keep y0_2.out).hT).mono ?_
 rintro e w3 ⟨rfl,b3⟩
 replace b3:=hid b3
 have hk3:=Gu hk2 HSZa b3.out;clear hHeld hk2
 refine hK.out _ _ (by (try dsimp only);with_reducible exact hun hk3) (fun hHeld=>?_)
 clear hK K;try simp only [Act.put,lt,ly,lu]
 refine tk (i:=9) (h:=?_)
 try simp only [Act.put,lt,ly,lu]
 refine tk (i:=10) (h:=?_)
 try simp only [Act.put,lt,ly,lu]
 have y0_3:=hid (bS y0_2.out b3.out)
 refine rd (i:=11) (h:=fun K hK=>?_);go_simp;go_at_call 4
 refine (AQ' (HC.out.keep y0_3.out).hM (HC.out.keep y0_3.out).hT).mono ?_
 rintro e w4 ⟨rfl,b4⟩
 replace b4:=hid b4
 have hk4:=Gu hk3 HSZa b4.out;clear hHeld hk3
 refine hK.out _ _ (by (try dsimp only);with_reducible exact hun hk4) (fun hHeld=>?_)
 clear hK K;try simp only [Act.put,lt,ly,lu]
 refine tk (i:=12) (h:=?_)
 try simp only [Act.put,lt,ly,lu]
 refine tk (i:=13) (h:=?_)
 try simp only [Act.put,lt,ly,lu]
 have y0_4:=hid (bS y0_3.out b4.out)
 have HE:=hid (HC.out.keep y0_4.out).hB
 refine wpAnyH_done (by kernel_rfl) ?_ _
 clear hHeld
 go_wp2_with fail
 go_ret
 exact ⟨rfl,HE.out⟩
theorem GB' {w wa:World} {mx:Int} {g2 bp bv:Nat} {P1 P2 P3 P4 V1 V2 V3 V4:Option Addr} {r1 r2 r3 r4 v1 v2 v3 v4:Nat} {a b x y:Rat} {L:List Rat} {ad:Option Addr} {n m c k2:Nat} {y1 y3 y4 y5 y6 y7 y9 y10 y11 y13 y14 y17 y18 y19 y20 y21 y22 y23 y24 y25 y26 y27 y28 y29 y30 y31 y32 y33 y34 y35 y36 y37 y38 y39 y40 y41 y42 y43 y44 y45 y46 y47 y48 y49 y50 y51 y52 y53 y54 y55 y56 y57 y58 y59 y60 y61 y62 y63 y64 y65 y66 y67 y68 y69 y70 y71 y72 y73 y74 y75 y76 y77 y78 y79 y80 y81 y82 y83 y84 y85 y86 y87 y88 y89 y90 y91 y92 y93 y94 y95 y96 y97 y98 y99 y100 y101 y102 y103 y104 y105 y106 y107 y108 y109 y110 y111 y112 y113 y114 y115 y116 y117 y118 y119 y120 y121 y122 y123 y124 y125 y126 y127 y128 y129 y130 y131 y132 y133 y134 y135 y136 y137 y138 y139 y140 y141 y142 y143 y144 y145 y146 y147 y148 y149 y150 y151 y152 y153 y154 y155 y156 y157 y158 y159 y160 y161 y162 y163 y164 y165 y166 y167:Value} (HC:Po w wa mx g2 bp bv P1 P2 P3 P4 V1 V2 V3 V4 r1 r2 r3 r4 v1 v2 v3 v4 a b x y L) (h1:200<n) (h2:n≤9223372036854775807) (hx:x=0) (hy:y=0) :
   (codeAt 12 Tryz.f3).wp Tryz.prog (bodyPost Tryz.prog Tryz.f3 (At' w true)) { tmps:=#[.slice ad n c,y1,.int .i64 ((m:Nat):Int),y3,y4,y5,y6,y7,.slice (some ⟨g2,0,none⟩) n k2,y9,y10,y11,.pointer (some ⟨bp,0,none⟩),y13,y14,.pointer (some ⟨bv,0,none⟩),.int .i64 5,y17,y18,y19,y20,y21,y22,y23,y24,y25,y26,y27,y28,y29,y30,y31,y32,y33,y34,y35,y36,y37,y38,y39,y40,y41,y42,y43,y44,y45,y46,y47,y48,y49,y50,y51,y52,y53,y54,y55,y56,y57,y58,y59,y60,y61,y62,y63,y64,y65,y66,y67,y68,y69,y70,y71,y72,y73,y74,y75,y76,y77,y78,y79,y80,y81,y82,y83,y84,y85,y86,y87,y88,y89,y90,y91,y92,y93,y94,y95,y96,y97,y98,y99,y100,y101,y102,y103,y104,y105,y106,y107,y108,y109,y110,y111,y112,y113,y114,y115,y116,y117,y118,y119,y120,y121,y122,y123,y124,y125,y126,y127,y128,y129,y130,y131,y132,y133,y134,y135,y136,y137,y138,y139,y140,y141,y142,y143,y144,y145,y146,y147,y148,y149,y150,y151,y152,y153,y154,y155,y156,y157,y158,y159,y160,y161,y162,y163,y164,y165,y166,y167],defers:=[] } wa:=by
 have d1:decide (((n:Nat):Int)>200)=true:=dT_ (by omega)
 have d1':(((n:Nat):Int)>200):=by omega
 clear h1 h2
 replace HC:=hid HC
 replace hx:=hid hx
 replace hy:=hid hy
 have HBp:=hid HC.out.hp
 have HRp:=hid HC.out.rp
 have HBv:=hid HC.out.hv
 have HRv:=hid HC.out.rv
 show Code.wp _ (Code.seq _ _) _ _ _
 go_upto_region 28 with fail
 obtain ⟨z_v_0,z_v_1,z_v_2,z_v_3,z_v_4,z_v_5⟩:=Ae' HRv.out
 have HX:=hid (CC' hx.out hy.out HBv.out)
 go_wp2_with fail
 refine (HX.out).mono ?_
 rintro e w1 ⟨rfl,b1⟩
 replace b1:=hid b1
 clear HX
 clear z_v_0 z_v_1 z_v_2 z_v_3 z_v_4 z_v_5
 have HX:=hid (AQ' (HC.out.keep b1.out).hM (HC.out.keep b1.out).hT)
 go_wp2_with fail
 refine (HX.out).mono ?_
 rintro e w2 ⟨rfl,b2⟩
 replace b2:=hid b2
 clear HX
 have y0_2:=hid (bS b1.out b2.out)
 have HE:=hid (HC.out.keep y0_2.out).hB
 go_wp2_with fail
 go_ret
 exact ⟨rfl,HE.out⟩
theorem GC {w wa:World} {mx:Int} {g2 bp bv:Nat} {P1 P2 P3 P4 V1 V2 V3 V4:Option Addr} {r1 r2 r3 r4 v1 v2 v3 v4:Nat} {a b x y:Rat} {L:List Rat} {ad:Option Addr} {n m c k2:Nat} {f:Int} {y1 y3 y4 y5 y6 y7 y9 y10 y11 y13 y14 y17 y18 y19 y20 y21 y22 y23 y24 y25 y26 y27 y28 y29 y30 y31 y32 y33 y34 y35 y36 y37 y38 y39 y40 y41 y42 y43 y44 y45 y46 y47 y48 y49 y50 y51 y52 y53 y54 y55 y56 y57 y58 y59 y60 y61 y62 y63 y64 y65 y66 y67 y68 y69 y70 y71 y72 y73 y74 y75 y76 y77 y78 y79 y80 y81 y82 y83 y84 y85 y86 y87 y88 y89 y90 y91 y92 y93 y94 y95 y96 y97 y98 y99 y100 y101 y102 y103 y104 y105 y106 y107 y108 y109 y110 y111 y112 y113 y114 y115 y116 y117 y118 y119 y120 y121 y122 y123 y124 y125 y126 y127 y128 y129 y130 y131 y132 y133 y134 y135 y136 y137 y138 y139 y140 y141 y142 y143 y144 y145 y146 y147 y148 y149 y150 y151 y152 y153 y154 y155 y156 y157 y158 y159 y160 y161 y162 y163 y164 y165 y166 y167:Value} (HC:Po w wa mx g2 bp bv P1 P2 P3 P4 V1 V2 V3 V4 r1 r2 r3 r4 v1 v2 v3 v4 a b x y L) (h:(1≤m∧m≤12∧a≤b∧Aa' a≤43∧Aa' b≤43∧L.length=n∧(∀ z∈L,Aa' z≤250)∧((n≤8∧f=0∧(Bl' a b m L).1=x∧(Bl' a b m L).2=y)∨(200<n∧n≤9223372036854775807∧f=5∧x=0∧y=0)))) :
   (codeAt 12 Tryz.f3).wp Tryz.prog (bodyPost Tryz.prog Tryz.f3 (At' w true)) { tmps:=#[.slice ad n c,y1,.int .i64 ((m:Nat):Int),y3,y4,y5,y6,y7,.slice (some ⟨g2,0,none⟩) n k2,y9,y10,y11,.pointer (some ⟨bp,0,none⟩),y13,y14,.pointer (some ⟨bv,0,none⟩),.int .i64 f,y17,y18,y19,y20,y21,y22,y23,y24,y25,y26,y27,y28,y29,y30,y31,y32,y33,y34,y35,y36,y37,y38,y39,y40,y41,y42,y43,y44,y45,y46,y47,y48,y49,y50,y51,y52,y53,y54,y55,y56,y57,y58,y59,y60,y61,y62,y63,y64,y65,y66,y67,y68,y69,y70,y71,y72,y73,y74,y75,y76,y77,y78,y79,y80,y81,y82,y83,y84,y85,y86,y87,y88,y89,y90,y91,y92,y93,y94,y95,y96,y97,y98,y99,y100,y101,y102,y103,y104,y105,y106,y107,y108,y109,y110,y111,y112,y113,y114,y115,y116,y117,y118,y119,y120,y121,y122,y123,y124,y125,y126,y127,y128,y129,y130,y131,y132,y133,y134,y135,y136,y137,y138,y139,y140,y141,y142,y143,y144,y145,y146,y147,y148,y149,y150,y151,y152,y153,y154,y155,y156,y157,y158,y159,y160,y161,y162,y163,y164,y165,y166,y167],defers:=[] } wa:=by
 obtain ⟨hm1,hm2,hab,sa,sb,eL,hs,⟨hn,rfl,ex,ey⟩ | ⟨h1,h2,rfl,hx,hy⟩⟩:=h
 · exact IC' HC eL hn hm1 hm2 hab ex ey sa sb hs
 · exact GB' HC h1 h2 hx hy
theorem GC' {w wa:World} {mx:Int} {g2 bp bv:Nat} {P1 P2 P3 P4 V1 V2 V3 V4:Option Addr} {r1 r2 r3 r4 v1 v2 v3 v4:Nat} {a b x y:Rat} {L:List Rat} {ad:Option Addr} {n m c k2:Nat} {f:Int} {Bp gq gc:Nat} {y1 y3 y4 y5 y6 y7 y9 y10 y11 y14 y17 y19 y20 y21 y22 y23 y24 y25 y26 y27 y28 y29 y30 y31 y32 y33 y34 y35 y36 y37 y38 y39 y40 y41 y42 y43 y44 y45 y46 y47 y48 y49 y50 y51 y52 y53 y54 y55 y56 y57 y58 y59 y60 y61 y62 y63 y64 y65 y66 y67 y68 y69 y70 y71 y72 y73 y74 y75 y76 y77 y78 y79 y80 y81 y82 y83 y84 y85 y86 y87 y88 y89 y90 y91 y92 y93 y94 y95 y96 y97 y98 y99 y100 y101 y102 y103 y104 y105 y106 y107 y108 y109 y110 y111 y112 y113 y114 y115 y116 y117 y118 y119 y120 y121 y122 y123 y124 y125 y126 y127 y128 y129 y130 y131 y132 y133 y134 y135 y136 y137 y138 y139 y140 y141 y142 y143 y144 y145 y146 y147 y148 y149 y150 y151 y152 y153 y154 y155 y156 y157 y158 y159 y160 y161 y162 y163 y164 y165 y166 y167:Value} (HC:Po w wa mx g2 bp bv P1 P2 P3 P4 V1 V2 V3 V4 r1 r2 r3 r4 v1 v2 v3 v4 a b x y L) (h:(1≤m∧m≤12∧a≤b∧Aa' a≤43∧Aa' b≤43∧L.length=n∧(∀ z∈L,Aa' z≤250)∧((n≤8∧f=0∧(Bl' a b m L).1=x∧(Bl' a b m L).2=y)∨(200<n∧n≤9223372036854775807∧f=5∧x=0∧y=0)))) (hq:Bn' wa Bp a b m m) (hr:Ch wa gq (BT' a b m m)) :
   (codeAt 11 Tryz.f3).wp Tryz.prog (bodyPost Tryz.prog Tryz.f3 (At' w true)) { tmps:=#[.slice ad n c,y1,.int .i64 ((m:Nat):Int),y3,y4,y5,y6,y7,.slice (some ⟨g2,0,none⟩) n k2,y9,y10,y11,.pointer (some ⟨bp,0,none⟩),.slice (some ⟨Bp,0,none⟩) m m,y14,.pointer (some ⟨bv,0,none⟩),.int .i64 f,y17,.slice (some ⟨gq,0,none⟩) m gc,y19,y20,y21,y22,y23,y24,y25,y26,y27,y28,y29,y30,y31,y32,y33,y34,y35,y36,y37,y38,y39,y40,y41,y42,y43,y44,y45,y46,y47,y48,y49,y50,y51,y52,y53,y54,y55,y56,y57,y58,y59,y60,y61,y62,y63,y64,y65,y66,y67,y68,y69,y70,y71,y72,y73,y74,y75,y76,y77,y78,y79,y80,y81,y82,y83,y84,y85,y86,y87,y88,y89,y90,y91,y92,y93,y94,y95,y96,y97,y98,y99,y100,y101,y102,y103,y104,y105,y106,y107,y108,y109,y110,y111,y112,y113,y114,y115,y116,y117,y118,y119,y120,y121,y122,y123,y124,y125,y126,y127,y128,y129,y130,y131,y132,y133,y134,y135,y136,y137,y138,y139,y140,y141,y142,y143,y144,y145,y146,y147,y148,y149,y150,y151,y152,y153,y154,y155,y156,y157,y158,y159,y160,y161,y162,y163,y164,y165,y166,y167],defers:=[] } wa:=by
 have hm2:=h.2.1
 have sa:=h.2.2.2.1
 have sb:=h.2.2.2.2.1
 have hm12:((m:Nat):Int)≤12:=by omega
 have HCS:=hid (fun i (hi:i≤20)=>nT (Dq (n:=m) sa sb (show m≤1000 by omega) (show i≤1000 by omega)) (show 250≤4100 by omega))
 clear sa sb hm2
 replace HC:=hid HC
 replace h:=hid h
 replace hq:=hid hq
 replace hr:=hid hr
 have HE:Hid (Below wa.heap.size wa wa):=hid (Below.refl _ _)
 show Code.wp _ (Code.seq _ _) _ _ _
 go_wp2_with fail
 rename_i G hG
 replace hG:=hid hG
 go_loopw [19] (fun iv wr=>∃ k:Nat,k≤m∧iv=.int .i64 ((k:Nat):Int)∧Hid (Below wa.heap.size wa wr)) (fun iv _=>m - (intOf iv).toNat)
 case atStart=>exact ⟨0,Nat.zero_le _,rfl,HE⟩
 case round =>
   obtain ⟨k,hk,rfl,hrel⟩:=hrel
   clear HE
   rcases Nat.lt_or_ge k m with hkn | hkn
   · have hin:decide (k<m)=true:=dT_ hkn
     obtain ⟨s1,A1,n1,c1,A2,n2,c2,s2,A3,n3,c3,A4,n4,c4,q0,q1,q2,q3,q4,q5,hx9⟩:=hq.out.keep hrel.out k hkn
     obtain ⟨s5,A5,n5,c5,A6,n6,c6,s6,A7,n7,c7,A8,n8,c8,z0,z1,z2,z3,z4,z5,hx8⟩:=hr.out.keep hrel.out k _ (EF hkn)
     have hBp:Bp<wr.heap.size:=bL _ _ q0
     have hgq:gq<wr.heap.size:=bL _ _ z0
     obtain ⟨u,hu⟩:=eY (k*6)
     rw [hu] at q0 q1 q2 q3 q4 q5 z0 z1 z2 z3 z4 z5
     have HC2:=hid (HC.out.keep hrel.out)
     have t1:=hid (HCS.out k (by have:=h.out.2.1;omega))
     have t2:=hid (HCS.out (k+1) (by have:=h.out.2.1;omega))
     replace hx9:=hid hx9
     replace hx8:=hid hx8
     go_upto_region 25 with fail
     go_wp2_with fail
     refine wp_region_held_drew (S:=(fun w'=>(w'.cell? ⟨Bp,u,none⟩=wr.cell? ⟨Bp,u,none⟩∧w'.cell? ⟨Bp,u+1,none⟩=wr.cell? ⟨Bp,u+1,none⟩∧w'.cell? ⟨Bp,u+2,none⟩=wr.cell? ⟨Bp,u+2,none⟩∧w'.cell? ⟨Bp,u+3,none⟩=wr.cell? ⟨Bp,u+3,none⟩∧w'.cell? ⟨Bp,u+4,none⟩=wr.cell? ⟨Bp,u+4,none⟩∧w'.cell? ⟨Bp,u+5,none⟩=wr.cell? ⟨Bp,u+5,none⟩∧w'.cell? ⟨gq,u,none⟩=wr.cell? ⟨gq,u,none⟩∧w'.cell? ⟨gq,u+1,none⟩=wr.cell? ⟨gq,u+1,none⟩∧w'.cell? ⟨gq,u+2,none⟩=wr.cell? ⟨gq,u+2,none⟩∧w'.cell? ⟨gq,u+3,none⟩=wr.cell? ⟨gq,u+3,none⟩∧w'.cell? ⟨gq,u+4,none⟩=wr.cell? ⟨gq,u+4,none⟩∧w'.cell? ⟨gq,u+5,none⟩=wr.cell? ⟨gq,u+5,none⟩))) (by kernel_rfl) ?_ (fun hHeld=>?_)
     · (try dsimp only)
       exact ⟨rfl,rfl,rfl,rfl,rfl,rfl,rfl,rfl,rfl,rfl,rfl,rfl⟩
     obtain ⟨v3,hv3⟩:=eX wr.drew
     have b3:Hid (Below wr.heap.size wr v3):=hid (by rw [hv3];exact ⟨rfl,rfl,rfl,nL _,fun _ _=>rfl⟩)
     rw [←hv3] at hHeld ⊢
     clear hv3
     refine tk (i:=0) (h:=?_)
     try simp only [Act.put,lt,ly,lu]
     refine tk (i:=1) (h:=?_)
     try simp only [Act.put,lt,ly,lu]
     refine tk (i:=2) (h:=?_)
     try simp only [Act.put,lt,ly,lu]
     refine tk (i:=3) (h:=?_)
     try simp only [Act.put,lt,ly,lu]
     refine tk (i:=4) (h:=?_)
     try simp only [Act.put,lt,ly,lu]
     refine tk (i:=5) (h:=?_)
     try simp only [Act.put,lt,ly,lu]
     refine tk (i:=6) (h:=?_)
     try simp only [Act.put,lt,ly,lu]
     refine tk (i:=7) (h:=?_)
     try simp only [Act.put,lt,ly,lu]
     refine rd (i:=8) (h:=fun K hK=>?_);go_simp;go_at_call 11
     refine (DE' (hx9.out.keep b3.out) (hx8.out.keep b3.out) t1.out t2.out (HC2.out.keep b3.out).hT).mono ?_
     rintro e8 v4 ⟨rfl,b4⟩
     have b34:=bS b3.out b4
     clear hHeld
     refine hK.out _ _ ?_ (fun hHeld=>?_)
     · (try dsimp only)
       exact ⟨b34.cell (p:=⟨Bp,u,none⟩) hBp,b34.cell (p:=⟨Bp,u+1,none⟩) hBp,b34.cell (p:=⟨Bp,u+2,none⟩) hBp,b34.cell (p:=⟨Bp,u+3,none⟩) hBp,b34.cell (p:=⟨Bp,u+4,none⟩) hBp,b34.cell (p:=⟨Bp,u+5,none⟩) hBp,b34.cell (p:=⟨gq,u,none⟩) hgq,b34.cell (p:=⟨gq,u+1,none⟩) hgq,b34.cell (p:=⟨gq,u+2,none⟩) hgq,b34.cell (p:=⟨gq,u+3,none⟩) hgq,b34.cell (p:=⟨gq,u+4,none⟩) hgq,b34.cell (p:=⟨gq,u+5,none⟩) hgq⟩
     clear hK K
     try simp only [Act.put,lt,ly,lu]
     refine tk (i:=9) (h:=?_)
     try simp only [Act.put,lt,ly,lu]
     refine wpAnyH_done (by kernel_rfl) ?_ _
     clear hHeld q0 q1 q2 q3 q4 q5 z0 z1 z2 z3 z4 z5 hu hx8 hx9 HC2
     have HR3:Hid (Below wa.heap.size wa v4):=hid (chain hrel.out b34)
     clear b34 b3 b4 hrel
     go_wp2_with fail
     go_roundw
     case rel=>exact ⟨k+1,hkn,by go_num,HR3⟩
     case measure=>simp [intOf];omega
   · obtain rfl:k=m:=Nat.le_antisymm hk hkn
     have hin:decide (k<k)=false:=dF_ (Nat.lt_irrefl _)
     have HC2:=hid (HC.out.keep hrel.out)
     go_wp2_with fail
     refine hG.out _ _ ?_
     exact GC HC2.out h.out
theorem FJ {w wa:World} {mx:Int} {g2 bp bv:Nat} {P1 P2 P3 P4 V1 V2 V3 V4:Option Addr} {r1 r2 r3 r4 v1 v2 v3 v4:Nat} {a b x y:Rat} {L:List Rat} {ad:Option Addr} {n m c k2:Nat} {f:Int} {Bp:Nat} {y1 y3 y4 y5 y6 y7 y9 y10 y11 y17 y18 y19 y20 y21 y22 y23 y24 y25 y26 y27 y28 y29 y30 y31 y32 y33 y34 y35 y36 y37 y38 y39 y40 y41 y42 y43 y44 y45 y46 y47 y48 y49 y50 y51 y52 y53 y54 y55 y56 y57 y58 y59 y60 y61 y62 y63 y64 y65 y66 y67 y68 y69 y70 y71 y72 y73 y74 y75 y76 y77 y78 y79 y80 y81 y82 y83 y84 y85 y86 y87 y88 y89 y90 y91 y92 y93 y94 y95 y96 y97 y98 y99 y100 y101 y102 y103 y104 y105 y106 y107 y108 y109 y110 y111 y112 y113 y114 y115 y116 y117 y118 y119 y120 y121 y122 y123 y124 y125 y126 y127 y128 y129 y130 y131 y132 y133 y134 y135 y136 y137 y138 y139 y140 y141 y142 y143 y144 y145 y146 y147 y148 y149 y150 y151 y152 y153 y154 y155 y156 y157 y158 y159 y160 y161 y162 y163 y164 y165 y166 y167:Value} (HC:Po w wa mx g2 bp bv P1 P2 P3 P4 V1 V2 V3 V4 r1 r2 r3 r4 v1 v2 v3 v4 a b x y L) (h:(1≤m∧m≤12∧a≤b∧Aa' a≤43∧Aa' b≤43∧L.length=n∧(∀ z∈L,Aa' z≤250)∧((n≤8∧f=0∧(Bl' a b m L).1=x∧(Bl' a b m L).2=y)∨(200<n∧n≤9223372036854775807∧f=5∧x=0∧y=0)))) (hq:Bn' wa Bp a b m m) :
   (codeAt 9 Tryz.f3).wp Tryz.prog (bodyPost Tryz.prog Tryz.f3 (At' w true)) { tmps:=#[.slice ad n c,y1,.int .i64 ((m:Nat):Int),y3,y4,y5,y6,y7,.slice (some ⟨g2,0,none⟩) n k2,y9,y10,y11,.pointer (some ⟨bp,0,none⟩),.slice (some ⟨Bp,0,none⟩) m m,.int .i64 0,.pointer (some ⟨bv,0,none⟩),.int .i64 f,y17,y18,y19,y20,y21,y22,y23,y24,y25,y26,y27,y28,y29,y30,y31,y32,y33,y34,y35,y36,y37,y38,y39,y40,y41,y42,y43,y44,y45,y46,y47,y48,y49,y50,y51,y52,y53,y54,y55,y56,y57,y58,y59,y60,y61,y62,y63,y64,y65,y66,y67,y68,y69,y70,y71,y72,y73,y74,y75,y76,y77,y78,y79,y80,y81,y82,y83,y84,y85,y86,y87,y88,y89,y90,y91,y92,y93,y94,y95,y96,y97,y98,y99,y100,y101,y102,y103,y104,y105,y106,y107,y108,y109,y110,y111,y112,y113,y114,y115,y116,y117,y118,y119,y120,y121,y122,y123,y124,y125,y126,y127,y128,y129,y130,y131,y132,y133,y134,y135,y136,y137,y138,y139,y140,y141,y142,y143,y144,y145,y146,y147,y148,y149,y150,y151,y152,y153,y154,y155,y156,y157,y158,y159,y160,y161,y162,y163,y164,y165,y166,y167],defers:=[] } wa:=by
 have hm1:=h.1
 have hm2:=h.2.1
 have sa:=h.2.2.2.1
 have sb:=h.2.2.2.2.1
 have hm12:((m:Nat):Int)≤12:=by omega
 have hmm:(((m:Nat):Int) != ((m:Nat):Int))=false:=by simp
 replace HC:=hid HC
 replace h:=hid h
 replace hq:=hid hq
 have HBp:=hid HC.out.hp
 have HRp:=hid HC.out.rp
 have HBv:=hid HC.out.hv
 have HRv:=hid HC.out.rv
 show Code.wp _ (Code.seq _ _) _ _ _
 obtain ⟨z_p_0,z_p_1,z_p_2,z_p_3,z_p_4,z_p_5⟩:=Ae' HRp.out
 have HX:=hid (D9' (n:=m) HBp.out hm1 (show m≤256 by omega) (show Aa' a≤20000 by omega) (show Aa' b≤20000 by omega))
 clear sa sb
 go_wp2_with fail
 refine (HX.out).mono ?_
 rintro e w1 ⟨gq,gc,rfl,hr,b1⟩
 replace hr:=hid hr
 replace b1:=hid b1
 clear HX
 clear z_p_0 z_p_1 z_p_2 z_p_3 z_p_4 z_p_5
 have HC2:=hid (HC.out.keep b1.out)
 have hq2:=hid (hq.out.keep b1.out)
 go_upto_region 20 with fail
 rename_i G hG Gb hGb
 replace hG:=hid hG
 go_wp2_with fail
 refine hG.out _ _ ?_
 exact GC' HC2.out h.out hq2.out hr.out
structure En (w wa:World) (mx:Int) (A:Option Addr) (n:Nat) (vals:Nat→Value) (cf:Nat→Rat) (bs bx bz:Nat) (P1 P2 P3 P4 X1 X2 Z1 Z2:Option Addr) (r1 r2 r3 r4 i1 i2 i3 i4:Nat) (a b x z:Rat):Prop where
  hl:C9' wa A n vals cf
  rs:wa.heap[bs]?=some (.cells #[.bool (decide (a.num<0)),.slice P1 (Vx.len a.num.natAbs) r1,.slice P2 (Vx.len (below a.den)) r2,.bool (decide (b.num<0)),.slice P3 (Vx.len b.num.natAbs) r3,.slice P4 (Vx.len (below b.den)) r4] 35 (0,0))
  hs:Ao' wa (.agg #[.bool (decide (a.num<0)),.slice P1 (Vx.len a.num.natAbs) r1,.slice P2 (Vx.len (below a.den)) r2,.bool (decide (b.num<0)),.slice P3 (Vx.len b.num.natAbs) r3,.slice P4 (Vx.len (below b.den)) r4]) a b
  rx:wa.heap[bx]?=some (.cells #[.bool (decide (x.num<0)),.slice X1 (Vx.len x.num.natAbs) i1,.slice X2 (Vx.len (below x.den)) i2] 33 (0,0))
  hx:Ac' wa (.agg #[.bool (decide (x.num<0)),.slice X1 (Vx.len x.num.natAbs) i1,.slice X2 (Vx.len (below x.den)) i2]) x
  rz:wa.heap[bz]?=some (.cells #[.bool (decide (z.num<0)),.slice Z1 (Vx.len z.num.natAbs) i3,.slice Z2 (Vx.len (below z.den)) i4] 33 (0,0))
  hz:Ac' wa (.agg #[.bool (decide (z.num<0)),.slice Z1 (Vx.len z.num.natAbs) i3,.slice Z2 (Vx.len (below z.den)) i4]) z
  hM:wa.cell? ⟨1,0,none⟩=some (.int .i64 mx)
  hT:TabAt 0 Lib.deBruijn64tab wa
  hB:Below w.heap.size w wa
theorem En.keep {w wa:World} {mx:Int} {A:Option Addr} {n:Nat} {vals:Nat→Value} {cf:Nat→Rat} {bs bx bz:Nat} {P1 P2 P3 P4 X1 X2 Z1 Z2:Option Addr} {r1 r2 r3 r4 i1 i2 i3 i4:Nat} {a b x z:Rat} {v:World} (h:En w wa mx A n vals cf bs bx bz P1 P2 P3 P4 X1 X2 Z1 Z2 r1 r2 r3 r4 i1 i2 i3 i4 a b x z) (hb:Below wa.heap.size wa v):En w v mx A n vals cf bs bx bz P1 P2 P3 P4 X1 X2 Z1 Z2 r1 r2 r3 r4 i1 i2 i3 i4 a b x z :=
 ⟨h.hl.keep hb,Ad' h.rs hb,h.hs.keep hb,Ad' h.rx hb,h.hx.keep hb,Ad' h.rz hb,h.hz.keep hb,Av' h.hM hb,Aq h.hT hb,chain h.hB hb⟩
theorem FJ' {W:World} {g:Nat} {l:List Rat} (h:Ba' W g 0 l):∃ vf:Nat→Value,C9' W (some ⟨g,0,none⟩) l.length vf (fun j=>l.getD j 0):=by
 have hx:∀ j:Nat,∃ v:Value,j<l.length→(∃ s A1 n1 c1 A2 n2 c2,v=.agg #[.bool s,.slice A1 n1 c1,.slice A2 n2 c2]∧W.cell? ⟨g,0+j*3,none⟩=some (.bool s)∧W.cell? ⟨g,0+j*3+1,none⟩=some (.slice A1 n1 c1)∧W.cell? ⟨g,0+j*3+2,none⟩=some (.slice A2 n2 c2))∧Ac' W v (l.getD j 0):=by
   intro j
   rcases Nat.lt_or_ge j l.length with hj | hj
   · obtain ⟨s,A1,n1,c1,A2,n2,c2,y0,y1,y2,hq⟩:=h j l[j] (by simp [hj])
     exact ⟨_,fun _=>⟨⟨s,A1,n1,c1,A2,n2,c2,rfl,y0,y1,y2⟩,by simpa [List.getD,hj] using hq⟩⟩
   · exact ⟨undef,fun h=>absurd h (by omega)⟩
 obtain ⟨vf,hvf⟩:=Classical.axiomOfChoice hx
 refine ⟨vf,fun j hj=>?_,fun j hj=>(hvf j hj).2⟩
 obtain ⟨⟨s,A1,n1,c1,A2,n2,c2,e,y0,y1,y2⟩,-⟩:=hvf j hj
 exact ⟨g,0,s,A1,n1,c1,A2,n2,c2,rfl,e,y0,y1,y2⟩
end Go.Proofs.YtbigkkjnhcpgiaaGreatDoor.Rf
