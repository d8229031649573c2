/-
  Contracts of the functions that the law calls, for every input (Sqf Sqg Sqh).
-/
import Derived.Test.YtcicfnlljdnagaaGreatDoorY00
import Derived.Test.YtcicfnlljdnagaaGreatDoorY46
import Derived.Test.YtcicfnlljdnagaaGreatDoorY39
set_option linter.all false
set_option maxRecDepth 100000
set_option maxHeartbeats 40000000
namespace Go.Proofs.YtcicfnlljdnagaaGreatDoor.Rf
open Lib (hid)
open Go.RowKit
open Rx
open Vx (Ab' Ah Ah')
open List renaming getElem?_toArray → lg, getElem?_cons_zero → lz, getElem?_cons_succ → ls, setIfInBounds_toArray → lt, set_cons_zero → ly, set_cons_succ → lu
theorem Il' (s t:Nat):∃ v:Nat,v≤255∧bits BinOp.xor IntKind.u8 ((s:Nat):Int) ((t:Nat):Int)=((v:Nat):Int):=by
 unfold bits
 obtain ⟨X,hX⟩:∃ X:BitVec IntKind.u8.bits,X=(BitVec.ofInt IntKind.u8.bits ((s:Nat):Int) ^^^ BitVec.ofInt IntKind.u8.bits ((t:Nat):Int)):=⟨_,rfl⟩
 have h:X.toNat<256:=X.isLt
 refine ⟨X.toNat,by omega,?_⟩
 simp only [←hX]
 unfold IntKind.wrap
 simp [IntKind.bits,IntKind.signed]
 omega
theorem Eu' {w:World} {Ba Bb Bd Bk:Nat} {a0 a1 m0 m1 d0 d1 k0 k1:Rat} {Bc s0 t0 D E:Nat} {M N:Int} {y0 y1 y2 y3 y4 y6 y8 y10 y12 y14 y15 y16 y17 y18 y19 y20 y21 y22 y23 y24 y25 y26 y27 y28 y29 y30 y31 y32 y33 y34 y35 y36 y37 y38 y39 y40 y41 y42 y43 y44 y45 y46 y47 y48 y49 y50 y51 y52 y53 y54 y55 y56 y57 y58 y59 y60 y61 y62 y63 y64 y65 y66 y67 y68 y69 y70 y71 y72 y73 y74 y75 y76 y77 y78 y79 y80 y81 y82 y83 y84 y85 y86 y87 y88 y89 y90 y91 y92 y93 y94 y95 y96 y97 y98 y99 y100 y101 y102 y103 y104 y105 y106 y107 y108 y109 y110 y111 y112 y113 y114 y115 y116 y117 y118 y119 y120 y121 y122 y123 y124 y125 y126 y127 y128 y129 y130 y131 y132 y133 y134 y135 y136 y137 y138 y139 y140 y141 y142 y143 y144 y145 y146 y147 y148 y149 y150 y151 y152 y153 y154 y155 y156 y157 y158 y159 y160 y161 y162 y163 y164 y165 y166 y167 y168 y169 y170 y171 y172 y173 y174:Value} {Po:Ending→World→Prop} (ha:AH' w Ba (a0,a1)) (hb:AH' w Bb (m0,m1)) (hd:AH' w Bd (d0,d1)) (hk:AH' w Bk (k0,k1)) (hf:AZ' a0 a1 m0 m1 d0 d1 k0 k1) (hT:TabAt 0 Lib.deBruijn64tab w) (hc:w.heap[Bc]?=some (.cells #[.int .u8 ((s0:Nat):Int),.int .u8 ((t0:Nat):Int),.int .i32 M,.int .u8 ((D:Nat):Int),.int .i32 N,.int .u8 ((E:Nat):Int)] 28 (0,0))) (h1 : -2147483648≤M) (h2:M≤2147483647) (h3:D≤255) (h4 : -2147483648≤N) (h5:N≤2147483647) (h6:E≤255) (ia:a0≤a1) (ib:m0≤m1) (id_:d0≤d1) (hs0:s0≤255) (ht0:t0≤255)  (hPo:∀ w',Below w.heap.size w w'→Po (.returned (.bool true)) w') :
   (codeAt 6 Tryz.f3).wp Tryz.prog (bodyPost Tryz.prog Tryz.f3 Po) { tmps:=#[y0,y1,y2,y3,y4,.pointer (some ⟨Bc,0,none⟩),y6,.pointer (some ⟨Ba,0,none⟩),y8,.pointer (some ⟨Bb,0,none⟩),y10,.pointer (some ⟨Bd,0,none⟩),y12,.pointer (some ⟨Bk,0,none⟩),y14,y15,y16,y17,y18,y19,y20,y21,y22,y23,y24,y25,y26,y27,y28,y29,y30,y31,y32,y33,y34,y35,y36,y37,y38,y39,y40,y41,y42,y43,y44,y45,y46,y47,y48,y49,y50,y51,y52,y53,y54,y55,y56,y57,y58,y59,y60,y61,y62,y63,y64,y65,y66,y67,y68,y69,y70,y71,y72,y73,y74,y75,y76,y77,y78,y79,y80,y81,y82,y83,y84,y85,y86,y87,y88,y89,y90,y91,y92,y93,y94,y95,y96,y97,y98,y99,y100,y101,y102,y103,y104,y105,y106,y107,y108,y109,y110,y111,y112,y113,y114,y115,y116,y117,y118,y119,y120,y121,y122,y123,y124,y125,y126,y127,y128,y129,y130,y131,y132,y133,y134,y135,y136,y137,y138,y139,y140,y141,y142,y143,y144,y145,y146,y147,y148,y149,y150,y151,y152,y153,y154,y155,y156,y157,y158,y159,y160,y161,y162,y163,y164,y165,y166,y167,y168,y169,y170,y171,y172,y173,y174],defers:=[] } w:=by
 obtain ⟨Xa1,ca1,Xa2,ca2,Xa3,ca3,Xa4,ca4,ra,xa⟩:=id ha
 dsimp only at ra xa
 have la:=Af' ra
 replace ra:=hid ra
 replace xa:=hid xa
 obtain ⟨Xb1,cb1,Xb2,cb2,Xb3,cb3,Xb4,cb4,rb,xb⟩:=id hb
 dsimp only at rb xb
 have lb:=Af' rb
 replace rb:=hid rb
 replace xb:=hid xb
 obtain ⟨Xd1,cd1,Xd2,cd2,Xd3,cd3,Xd4,cd4,rdq,xd⟩:=id hd
 dsimp only at rdq xd
 have ld:=Af' rdq
 replace rdq:=hid rdq
 replace xd:=hid xd
 obtain ⟨v,hv,hx9⟩:=Il' s0 t0
 obtain ⟨x,ex⟩:=eY (BB a0 a1 s0)
 obtain ⟨y,ey⟩:=eY (BB m0 m1 t0)
 obtain ⟨z,ez⟩:=eY (BB d0 d1 v)
 have ix:=DD' ia hs0
 rw [ex] at ix
 have iy:=DD' ib ht0
 rw [ey] at iy
 have iz:=DD' id_ hv
 rw [ez] at iz
 have sx:Ab' x≤100∧Ab' y≤100∧Ab' z≤100:=by
   have k1:=Df' (lo:=a0) (hi:=a1) hs0
   have k2:=Df' (lo:=m0) (hi:=m1) ht0
   have k3:=Df' (lo:=d0) (hi:=d1) hv
   have k4:=hf.2.2.2.1
   have k5:=hf.2.2.2.2.1
   have k6:=hf.2.2.2.2.2
   rw [ex] at k1
   rw [ey] at k2
   rw [ez] at k3
   exact ⟨by omega,by omega,by omega⟩
 have lc:=Af' hc
 obtain ⟨zc0,zc1⟩:w.cell? ⟨Bc,0,none⟩=some (.int .u8 ((s0:Nat):Int))∧w.cell? ⟨Bc,1,none⟩=some (.int .u8 ((t0:Nat):Int)):=⟨cR _ _ 0 _ _ _ hc,cR _ _ 1 _ _ _ hc⟩
 obtain ⟨z_a_0,z_a_1,z_a_2,z_a_3,z_a_4,z_a_5⟩:=Af ra.out
 obtain ⟨z_b_0,z_b_1,z_b_2,z_b_3,z_b_4,z_b_5⟩:=Af rb.out
 obtain ⟨z_d_0,z_d_1,z_d_2,z_d_3,z_d_4,z_d_5⟩:=Af rdq.out
 replace ex:=hid ex
 replace ey:=hid ey
 replace ez:=hid ez
 replace ix:=hid ix
 replace iy:=hid iy
 replace iz:=hid iz
 replace sx:=hid sx
 replace ia:=hid ia
 replace ib:=hid ib
 replace id_:=hid id_
 replace hf:=hid hf
 replace hT:=hid hT
 replace hPo:=hid hPo
 replace ha:=hid ha
 replace hb:=hid hb
 replace hd:=hid hd
 replace hk:=hid hk
 replace hc:=hid hc
 replace h1:=hid h1
 replace h2:=hid h2
 replace h3:=hid h3
 replace h4:=hid h4
 replace h5:=hid h5
 replace h6:=hid h6
 show Code.wp _ (Code.seq _ _) _ _ _
 go_upto_region 7 with fail
 rename_i G hG
 replace hG:=hid hG
 go_wp2_with fail
 refine wp_region_held_drew (S:=(fun w'=>(w'.cell? ⟨Ba,0,none⟩=w.cell? ⟨Ba,0,none⟩∧w'.cell? ⟨Ba,1,none⟩=w.cell? ⟨Ba,1,none⟩∧w'.cell? ⟨Ba,2,none⟩=w.cell? ⟨Ba,2,none⟩∧w'.cell? ⟨Ba,3,none⟩=w.cell? ⟨Ba,3,none⟩∧w'.cell? ⟨Ba,4,none⟩=w.cell? ⟨Ba,4,none⟩∧w'.cell? ⟨Ba,5,none⟩=w.cell? ⟨Ba,5,none⟩∧w'.cell? ⟨Bb,0,none⟩=w.cell? ⟨Bb,0,none⟩∧w'.cell? ⟨Bb,1,none⟩=w.cell? ⟨Bb,1,none⟩∧w'.cell? ⟨Bb,2,none⟩=w.cell? ⟨Bb,2,none⟩∧w'.cell? ⟨Bb,3,none⟩=w.cell? ⟨Bb,3,none⟩∧w'.cell? ⟨Bb,4,none⟩=w.cell? ⟨Bb,4,none⟩∧w'.cell? ⟨Bb,5,none⟩=w.cell? ⟨Bb,5,none⟩∧w'.cell? ⟨Bd,0,none⟩=w.cell? ⟨Bd,0,none⟩∧w'.cell? ⟨Bd,1,none⟩=w.cell? ⟨Bd,1,none⟩∧w'.cell? ⟨Bd,2,none⟩=w.cell? ⟨Bd,2,none⟩∧w'.cell? ⟨Bd,3,none⟩=w.cell? ⟨Bd,3,none⟩∧w'.cell? ⟨Bd,4,none⟩=w.cell? ⟨Bd,4,none⟩∧w'.cell? ⟨Bd,5,none⟩=w.cell? ⟨Bd,5,none⟩∧w'.cell? ⟨Bc,0,none⟩=w.cell? ⟨Bc,0,none⟩∧w'.cell? ⟨Bc,1,none⟩=w.cell? ⟨Bc,1,none⟩))) (by kernel_rfl) ?_ (fun hHeld=>?_)
 · (try dsimp only)
   exact ⟨rfl,rfl,rfl,rfl,rfl,rfl,rfl,rfl,rfl,rfl,rfl,rfl,rfl,rfl,rfl,rfl,rfl,rfl,rfl,rfl⟩
 obtain ⟨w1,hw1⟩:=eX w.drew
 have bd:Hid (Below w.heap.size w w1):=hid (by rw [hw1];exact ⟨rfl,rfl,rfl,nL _,fun _ _=>rfl⟩)
 rw [←hw1] at hHeld ⊢
 clear hw1
 have hSof:Hid (∀ u:World,Below w1.heap.size w1 u→(u.cell? ⟨Ba,0,none⟩=w.cell? ⟨Ba,0,none⟩∧u.cell? ⟨Ba,1,none⟩=w.cell? ⟨Ba,1,none⟩∧u.cell? ⟨Ba,2,none⟩=w.cell? ⟨Ba,2,none⟩∧u.cell? ⟨Ba,3,none⟩=w.cell? ⟨Ba,3,none⟩∧u.cell? ⟨Ba,4,none⟩=w.cell? ⟨Ba,4,none⟩∧u.cell? ⟨Ba,5,none⟩=w.cell? ⟨Ba,5,none⟩∧u.cell? ⟨Bb,0,none⟩=w.cell? ⟨Bb,0,none⟩∧u.cell? ⟨Bb,1,none⟩=w.cell? ⟨Bb,1,none⟩∧u.cell? ⟨Bb,2,none⟩=w.cell? ⟨Bb,2,none⟩∧u.cell? ⟨Bb,3,none⟩=w.cell? ⟨Bb,3,none⟩∧u.cell? ⟨Bb,4,none⟩=w.cell? ⟨Bb,4,none⟩∧u.cell? ⟨Bb,5,none⟩=w.cell? ⟨Bb,5,none⟩∧u.cell? ⟨Bd,0,none⟩=w.cell? ⟨Bd,0,none⟩∧u.cell? ⟨Bd,1,none⟩=w.cell? ⟨Bd,1,none⟩∧u.cell? ⟨Bd,2,none⟩=w.cell? ⟨Bd,2,none⟩∧u.cell? ⟨Bd,3,none⟩=w.cell? ⟨Bd,3,none⟩∧u.cell? ⟨Bd,4,none⟩=w.cell? ⟨Bd,4,none⟩∧u.cell? ⟨Bd,5,none⟩=w.cell? ⟨Bd,5,none⟩∧u.cell? ⟨Bc,0,none⟩=w.cell? ⟨Bc,0,none⟩∧u.cell? ⟨Bc,1,none⟩=w.cell? ⟨Bc,1,none⟩)):=hid (fun u hu=>by
   have k:=bS bd.out hu
   exact ⟨k.cell (p:=⟨Ba,0,none⟩) la,k.cell (p:=⟨Ba,1,none⟩) la,k.cell (p:=⟨Ba,2,none⟩) la,k.cell (p:=⟨Ba,3,none⟩) la,k.cell (p:=⟨Ba,4,none⟩) la,k.cell (p:=⟨Ba,5,none⟩) la,k.cell (p:=⟨Bb,0,none⟩) lb,k.cell (p:=⟨Bb,1,none⟩) lb,k.cell (p:=⟨Bb,2,none⟩) lb,k.cell (p:=⟨Bb,3,none⟩) lb,k.cell (p:=⟨Bb,4,none⟩) lb,k.cell (p:=⟨Bb,5,none⟩) lb,k.cell (p:=⟨Bd,0,none⟩) ld,k.cell (p:=⟨Bd,1,none⟩) ld,k.cell (p:=⟨Bd,2,none⟩) ld,k.cell (p:=⟨Bd,3,none⟩) ld,k.cell (p:=⟨Bd,4,none⟩) ld,k.cell (p:=⟨Bd,5,none⟩) ld,k.cell (p:=⟨Bc,0,none⟩) lc,k.cell (p:=⟨Bc,1,none⟩) lc⟩)
 refine tk (i:=0) (h:=?_)
 try simp only [Act.put,lt,ly,lu]
 refine tk (i:=1) (h:=?_)
 try simp only [Act.put,lt,ly,lu]
 refine tk (i:=2) (h:=?_)
 try simp only [Act.put,lt,ly,lu]
 refine tk (i:=4) (h:=?_)
 try simp only [Act.put,lt,ly,lu]
 refine tk (i:=5) (h:=?_)
 try simp only [Act.put,lt,ly,lu]
 refine tk (i:=6) (h:=?_)
 try simp only [Act.put,lt,ly,lu]
 refine tk (i:=8) (h:=?_)
 try simp only [Act.put,lt,ly,lu]
 refine tk (i:=9) (h:=?_)
 try simp only [Act.put,lt,ly,lu]
 refine tk (i:=10) (h:=?_)
 try simp only [Act.put,lt,ly,lu]
 refine tk (i:=11) (h:=?_)
 try simp only [Act.put,lt,ly,lu]
 refine tk (i:=12) (h:=?_)
 try simp only [Act.put,lt,ly,lu]
 refine tk (i:=13) (h:=?_)
 try simp only [Act.put,lt,ly,lu]
 obtain ⟨va,hva⟩:=eX (.agg #[.bool (decide (a0.num<0)),.slice Xa1 (Vx.len a0.num.natAbs) ca1,.slice Xa2 (Vx.len (below a0.den)) ca2,.bool (decide (a1.num<0)),.slice Xa3 (Vx.len a1.num.natAbs) ca3,.slice Xa4 (Vx.len (below a1.den)) ca4]:Value)
 obtain ⟨vb,hvb⟩:=eX (.agg #[.bool (decide (m0.num<0)),.slice Xb1 (Vx.len m0.num.natAbs) cb1,.slice Xb2 (Vx.len (below m0.den)) cb2,.bool (decide (m1.num<0)),.slice Xb3 (Vx.len m1.num.natAbs) cb3,.slice Xb4 (Vx.len (below m1.den)) cb4]:Value)
 obtain ⟨vd,hvd⟩:=eX (.agg #[.bool (decide (d0.num<0)),.slice Xd1 (Vx.len d0.num.natAbs) cd1,.slice Xd2 (Vx.len (below d0.den)) cd2,.bool (decide (d1.num<0)),.slice Xd3 (Vx.len d1.num.natAbs) cd3,.slice Xd4 (Vx.len (below d1.den)) cd4]:Value)
 rw [←hva,←hvb,←hvd]
 rw [←hva] at xa
 rw [←hvb] at xb
 rw [←hvd] at xd
 clear hva hvb hvd hHeld z_a_0 z_a_1 z_a_2 z_a_3 z_a_4 z_a_5 z_b_0 z_b_1 z_b_2 z_b_3 z_b_4 z_b_5 z_d_0 z_d_1 z_d_2 z_d_3 z_d_4 z_d_5
 try rw [hx9]
 have fa:Ab' a0≤1000000∧Ab' a1≤1000000:=⟨nT hf.out.2.2.2.1.1 (by omega),nT hf.out.2.2.2.1.2 (by omega)⟩
 have fb:Ab' m0≤1000000∧Ab' m1≤1000000:=⟨nT hf.out.2.2.2.2.1.1 (by omega),nT hf.out.2.2.2.2.1.2 (by omega)⟩
 have fd:Ab' d0≤1000000∧Ab' d1≤1000000:=⟨nT hf.out.2.2.2.2.2.1 (by omega),nT hf.out.2.2.2.2.2.2 (by omega)⟩
 refine Ce' (base:=3) (n:=6) (INV:=fun a0 nK lK aK u=>∃ (c3 c7 c14 d15 d16 d17:Bool) (vx vy vz p15 p16 p17:Value) (b15 b16 b17:Nat),nK=(!c3).toNat+(!c7).toNat+(!c14).toNat+(!d15).toNat+(!d16).toNat+(!d17).toNat∧lK=#[true,true,true,c3,true,true,true,c7,true,true,true,true,true,true,c14,d15,d16,d17,false,false,false]∧aK={ a0 with tmps:=((((((a0.tmps.setIfInBounds 65 vx).setIfInBounds 69 vy).setIfInBounds 76 vz).setIfInBounds 15 p15).setIfInBounds 16 p16).setIfInBounds 17 p17) }∧((c3 || !c7) && (c7 || !c14))=true∧Below w1.heap.size w1 u∧(c3=true→Ad' u vx x)∧(c7=true→Ad' u vy y)∧(c14=true→Ad' u vz z)∧BP d15 w1.heap.size u (.cells #[.bool false,.slice none 0 0,.slice none 0 0] 32) p15 b15∧BP d16 w1.heap.size u (.cells #[.bool false,.slice none 0 0,.slice none 0 0] 32) p16 b16∧BP d17 w1.heap.size u (.cells #[.bool false,.slice none 0 0,.slice none 0 0] 32) p17 b17∧(d15=true→d16=true→b15≠b16)∧(d15=true→d17=true→b15≠b17)∧(d16=true→d17=true→b16≠b17)) ?_ ?_ ?_
 · exact ⟨false,false,false,false,false,false,y65,y69,y76,y15,y16,y17,0,0,0,rfl,rfl,(by kernel_rfl),rfl,Below.refl _ _,nofun,nofun,nofun,nofun,nofun,nofun,nofun,nofun,nofun⟩
 rotate_left
 · rintro nK lK aK u ⟨c3,c7,c14,d15,d16,d17,vx,vy,vz,p15,p16,p17,b15,b16,b17,hn,rfl,rfl,hc,HB,k3,k7,k14,r15,r16,r17,n15_16,n15_17,n16_17⟩ ih
   refine BN' (fun i=>(i==3 && !c3) || (i==7 && (c3 && !c7)) || (i==14 && (c7 && !c14)) || (i==15 && !d15) || (i==16 && !d16) || (i==17 && !d17)) ?_ ?_
   · clear ih HB n16_17 n15_17 n15_16 r17 r16 r15 k14 k7 k3
     cases c3 <;> cases c7 <;> cases c14 <;> cases d15 <;> cases d16 <;> cases d17 <;> first | exact absurd hn (Nat.succ_ne_zero nK) | exact absurd hc Bool.false_ne_true | (clear hn hc;kernel_rfl)
   · intro iK hp
     simp only [Bool.or_eq_true,Bool.and_eq_true,beq_iff_eq,Bool.not_eq_true'] at hp
     rcases hp with (((((⟨rfl,rfl⟩ | ⟨rfl,rfl,rfl⟩) | ⟨rfl,rfl,rfl⟩) | ⟨rfl,rfl⟩) | ⟨rfl,rfl⟩) | ⟨rfl,rfl⟩)
     · refine AllReadyH.cons (o:=?oq84) ?eq84 ?kq84 AllReadyH.nil
       case eq84=>simp only [lg,lz,ls] <;> rfl
       intro K hK
       go_simp
       go_at_call 8
       refine (show Calls _ _ _ _ (Ao' u x) from ex.out ▸ Dg (xa.out.keep (bS bd.out HB)) hs0 fa.1 fa.2).mono ?_
       rintro eK u9 ⟨vx,rfl,kk,b9⟩
       refine hK.out _ _ (hSof.out u9 (bS HB b9)) (fun hHeld=>?_)
       clear hK
       try simp only [Act.put,lt,ly,lu]
       exact ih _ (by omega) _ _ _ ⟨true,c7,c14,d15,d16,d17,vx,vy,vz,p15,p16,p17,b15,b16,b17,(by simp only [Bool.not_true,Bool.not_false,Bool.toNat_true,Bool.toNat_false] at hn ⊢;omega),rfl,(by kernel_rfl),(by cases c7 <;> cases c14 <;> first | rfl | exact hc | cases hc),bS HB b9,fun _=>kk,fun h=>(k7 h).keep b9,fun h=>(k14 h).keep b9,r15.keep b9,r16.keep b9,r17.keep b9,n15_16,n15_17,n16_17⟩
     · refine AllReadyH.cons (o:=?oq85) ?eq85 ?kq85 AllReadyH.nil
       case eq85=>simp only [lg,lz,ls] <;> rfl
       intro K hK
       go_simp
       go_at_call 8
       refine (show Calls _ _ _ _ (Ao' u y) from ey.out ▸ Dg (xb.out.keep (bS bd.out HB)) ht0 fb.1 fb.2).mono ?_
       rintro eK u9 ⟨vy,rfl,kk,b9⟩
       refine hK.out _ _ (hSof.out u9 (bS HB b9)) (fun hHeld=>?_)
       clear hK
       try simp only [Act.put,lt,ly,lu]
       exact ih _ (by omega) _ _ _ ⟨true,true,c14,d15,d16,d17,vx,vy,vz,p15,p16,p17,b15,b16,b17,(by simp only [Bool.not_true,Bool.not_false,Bool.toNat_true,Bool.toNat_false] at hn ⊢;omega),rfl,(by kernel_rfl),(by cases c14 <;> first | rfl | exact hc | cases hc),bS HB b9,fun h=>(k3 h).keep b9,fun _=>kk,fun h=>(k14 h).keep b9,r15.keep b9,r16.keep b9,r17.keep b9,n15_16,n15_17,n16_17⟩
     · refine AllReadyH.cons (o:=?oq86) ?eq86 ?kq86 AllReadyH.nil
       case eq86=>simp only [lg,lz,ls] <;> rfl
       intro K hK
       go_simp
       go_at_call 8
       refine (show Calls _ _ _ _ (Ao' u z) from ez.out ▸ Dg (xd.out.keep (bS bd.out HB)) hv fd.1 fd.2).mono ?_
       rintro eK u9 ⟨vz,rfl,kk,b9⟩
       refine hK.out _ _ (hSof.out u9 (bS HB b9)) (fun hHeld=>?_)
       clear hK
       try simp only [Act.put,lt,ly,lu]
       exact ih _ (by omega) _ _ _ ⟨c3,true,true,d15,d16,d17,vx,vy,vz,p15,p16,p17,b15,b16,b17,(by simp only [Bool.not_true,Bool.not_false,Bool.toNat_true,Bool.toNat_false] at hn ⊢;omega),rfl,(by kernel_rfl),(by cases c3 <;> first | rfl | exact hc | cases hc),bS HB b9,fun h=>(k3 h).keep b9,fun h=>(k7 h).keep b9,fun _=>kk,r15.keep b9,r16.keep b9,r17.keep b9,n15_16,n15_17,n16_17⟩
     · refine AllReadyH.cons (o:=?oq87) ?eq87 ?kq87 AllReadyH.nil
       case eq87=>simp only [lg,lz,ls] <;> rfl
       intro K hK
       go_simp
       have b9:=An u (.cells #[.bool false,.slice none 0 0,.slice none 0 0] 32)
       refine hK.out _ _ (hSof.out _ (bS HB b9)) (fun _=>?_)
       try simp only [Act.put,lt,ly,lu]
       exact ih _ (by omega) _ _ _ ⟨c3,c7,c14,true,d16,d17,vx,vy,vz,.pointer (some ⟨u.heap.size,0,none⟩),p16,p17,u.heap.size,b16,b17,(by simp only [Bool.not_true,Bool.not_false,Bool.toNat_true,Bool.toNat_false] at hn ⊢;omega),rfl,(by kernel_rfl),hc,bS HB b9,fun h=>(k3 h).keep b9,fun h=>(k7 h).keep b9,fun h=>(k14 h).keep b9,.new _ HB.size,r16.keep b9,r17.keep b9,fun _=>r16.ne,fun _=>r17.ne,n16_17⟩
     · refine AllReadyH.cons (o:=?oq88) ?eq88 ?kq88 AllReadyH.nil
       case eq88=>simp only [lg,lz,ls] <;> rfl
       intro K hK
       go_simp
       have b9:=An u (.cells #[.bool false,.slice none 0 0,.slice none 0 0] 32)
       refine hK.out _ _ (hSof.out _ (bS HB b9)) (fun _=>?_)
       try simp only [Act.put,lt,ly,lu]
       exact ih _ (by omega) _ _ _ ⟨c3,c7,c14,d15,true,d17,vx,vy,vz,p15,.pointer (some ⟨u.heap.size,0,none⟩),p17,b15,u.heap.size,b17,(by simp only [Bool.not_true,Bool.not_false,Bool.toNat_true,Bool.toNat_false] at hn ⊢;omega),rfl,(by kernel_rfl),hc,bS HB b9,fun h=>(k3 h).keep b9,fun h=>(k7 h).keep b9,fun h=>(k14 h).keep b9,r15.keep b9,.new _ HB.size,r17.keep b9,fun h _=>(r15.ne h).symm,n15_17,fun _=>r17.ne⟩
     · refine AllReadyH.cons (o:=?oq89) ?eq89 ?kq89 AllReadyH.nil
       case eq89=>simp only [lg,lz,ls] <;> rfl
       intro K hK
       go_simp
       have b9:=An u (.cells #[.bool false,.slice none 0 0,.slice none 0 0] 32)
       refine hK.out _ _ (hSof.out _ (bS HB b9)) (fun _=>?_)
       try simp only [Act.put,lt,ly,lu]
       exact ih _ (by omega) _ _ _ ⟨c3,c7,c14,d15,d16,true,vx,vy,vz,p15,p16,.pointer (some ⟨u.heap.size,0,none⟩),b15,b16,u.heap.size,(by simp only [Bool.not_true,Bool.not_false,Bool.toNat_true,Bool.toNat_false] at hn ⊢;omega),rfl,(by kernel_rfl),hc,bS HB b9,fun h=>(k3 h).keep b9,fun h=>(k7 h).keep b9,fun h=>(k14 h).keep b9,r15.keep b9,r16.keep b9,.new _ HB.size,n15_16,fun h _=>(r15.ne h).symm,fun h _=>(r16.ne h).symm⟩
 rintro lK aK u ⟨c3,c7,c14,d15,d16,d17,vx,vy,vz,p15,p16,p17,b15,b16,b17,hn,rfl,rfl,hc,HB,k3,k7,k14,r15,r16,r17,n15_16,n15_17,n16_17⟩
 obtain ⟨rfl,rfl,rfl,rfl,rfl,rfl⟩:c3=true∧c7=true∧c14=true∧d15=true∧d16=true∧d17=true:=by
   revert hn
   clear HB hc n16_17 n15_17 n15_16 r17 r16 r15 k14 k7 k3
   cases c3 <;> cases c7 <;> cases c14 <;> cases d15 <;> cases d16 <;> cases d17 <;> simp
 clear hn hc
 replace k3:=k3 rfl
 replace k7:=k7 rfl
 replace k14:=k14 rfl
 obtain ⟨rfl,rr15⟩:=r15 rfl
 clear r15
 obtain ⟨rfl,rr16⟩:=r16 rfl
 clear r16
 obtain ⟨rfl,rr17⟩:=r17 rfl
 clear r17
 replace n15_16:=n15_16 rfl rfl
 replace n15_17:=n15_17 rfl rfl
 replace n16_17:=n16_17 rfl rfl
 try simp only [Act.put,lt,ly,lu]
 obtain ⟨A1,c1,B1,e1,rfl,-,-⟩:=id k3.opened
 obtain ⟨A2,c2,B2,e2,rfl,-,-⟩:=id k7.opened
 obtain ⟨A3,c3,B3,e3,rfl,-,-⟩:=id k14.opened
 replace rr15:=hid rr15
 replace rr16:=hid rr16
 replace rr17:=hid rr17
 refine BN' (fun i=>i==18) (by kernel_rfl) (fun i hp=>?_)
 obtain rfl:=beq_iff_eq.1 hp
 clear hp
 refine AllReadyH.cons (o:=?o18) ?e18 ?k18 AllReadyH.nil
 case e18=>simp only [lg,lz,ls] <;> rfl
 intro K hK
 have D18:=rr15.out.2
 obtain ⟨q0,q1,q2⟩:=Ae D18
 have F0:=fR u b15 0 _ _ D18
 have F1:=fR u b15 1 _ _ D18
 have F2:=fR u b15 2 _ _ D18
 go_simp
 clear q0 q1 q2 F0 F1 F2
 obtain ⟨u18,hw⟩:=eX ((((u.setCell ⟨b15,0,none⟩ (.bool (decide (x.num<0)))).setCell ⟨b15,1,none⟩ (.slice A1 (Vx.len x.num.natAbs) c1)).setCell ⟨b15,2,none⟩ (.slice B1 (Vx.len (below x.den)) e1)))
 obtain ⟨E18,OT,LV,BL⟩:=As' D18 hw
 rw [←hw]
 clear hw
 have HB18:=BL _ _ rr15.out.1 HB
 have R16_18:=hid (OT _ _ (Ne.symm n15_16) (rr16.out.2))
 have R17_18:=hid (OT _ _ (Ne.symm n15_17) (rr17.out.2))
 have V15_18:=LV.num k3
 have V16_18:=LV.num k7
 have V17_18:=LV.num k14
 refine hK.out _ _ (hSof.out _ HB18) (fun _=>?_)
 clear hK K OT LV BL D18
 replace E18:=hid E18
 try simp only [Act.put,lt,ly,lu]
 refine BN' (fun i=>i==19) (by kernel_rfl) (fun i hp=>?_)
 obtain rfl:=beq_iff_eq.1 hp
 clear hp
 refine AllReadyH.cons (o:=?o19) ?e19 ?k19 AllReadyH.nil
 case e19=>simp only [lg,lz,ls] <;> rfl
 intro K hK
 have D19:=R16_18.out
 obtain ⟨q0,q1,q2⟩:=Ae D19
 have F0:=fR u18 b16 0 _ _ D19
 have F1:=fR u18 b16 1 _ _ D19
 have F2:=fR u18 b16 2 _ _ D19
 go_simp
 clear q0 q1 q2 F0 F1 F2
 obtain ⟨u19,hw⟩:=eX ((((u18.setCell ⟨b16,0,none⟩ (.bool (decide (y.num<0)))).setCell ⟨b16,1,none⟩ (.slice A2 (Vx.len y.num.natAbs) c2)).setCell ⟨b16,2,none⟩ (.slice B2 (Vx.len (below y.den)) e2)))
 obtain ⟨E19,OT,LV,BL⟩:=As' D19 hw
 rw [←hw]
 clear hw
 have HB19:=BL _ _ rr16.out.1 HB18
 have R15_19:=hid (OT _ _ n15_16 (E18.out))
 have R17_19:=hid (OT _ _ (Ne.symm n16_17) (R17_18.out))
 have V15_19:=LV.num V15_18
 have V16_19:=LV.num V16_18
 have V17_19:=LV.num V17_18
 refine hK.out _ _ (hSof.out _ HB19) (fun _=>?_)
 clear hK K OT LV BL D19
 replace E19:=hid E19
 try simp only [Act.put,lt,ly,lu]
 refine BN' (fun i=>i==20) (by kernel_rfl) (fun i hp=>?_)
 obtain rfl:=beq_iff_eq.1 hp
 clear hp
 refine AllReadyH.cons (o:=?o20) ?e20 ?k20 AllReadyH.nil
 case e20=>simp only [lg,lz,ls] <;> rfl
 intro K hK
 have D20:=R17_19.out
 obtain ⟨q0,q1,q2⟩:=Ae D20
 have F0:=fR u19 b17 0 _ _ D20
 have F1:=fR u19 b17 1 _ _ D20
 have F2:=fR u19 b17 2 _ _ D20
 go_simp
 clear q0 q1 q2 F0 F1 F2
 obtain ⟨u20,hw⟩:=eX ((((u19.setCell ⟨b17,0,none⟩ (.bool (decide (z.num<0)))).setCell ⟨b17,1,none⟩ (.slice A3 (Vx.len z.num.natAbs) c3)).setCell ⟨b17,2,none⟩ (.slice B3 (Vx.len (below z.den)) e3)))
 obtain ⟨E20,OT,LV,BL⟩:=As' D20 hw
 rw [←hw]
 clear hw
 have HB20:=BL _ _ rr17.out.1 HB19
 have R15_20:=hid (OT _ _ n15_17 (R15_19.out))
 have R16_20:=hid (OT _ _ n16_17 (E19.out))
 have V15_20:=LV.num V15_19
 have V16_20:=LV.num V16_19
 have V17_20:=LV.num V17_19
 refine hK.out _ _ (hSof.out _ HB20) (fun _=>?_)
 clear hK K OT LV BL D20
 replace E20:=hid E20
 try simp only [Act.put,lt,ly,lu]
 refine wpAnyH_done (by kernel_rfl) ?_ _
 have FB:=hid (bS bd.out HB20)
 have N1:Hid (CY' u20 b15 x):=hid ⟨_,_,_,_,R15_20.out,V15_20⟩
 have N2:Hid (CY' u20 b16 y):=hid ⟨_,_,_,_,R16_20.out,V16_20⟩
 have N3:Hid (CY' u20 b17 z):=hid ⟨_,_,_,_,E20.out,V17_20⟩
 clear HB hSof
 go_wp2_with fail
 refine hG.out _ _ ?_
 exact GC' (ha.out.keep FB.out) (hb.out.keep FB.out) (hd.out.keep FB.out) (hk.out.keep FB.out) hf.out (Ar' hT.out FB.out) (Ac' hc.out FB.out) h1.out h2.out h3.out h4.out h5.out h6.out N1.out N2.out N3.out ix.out iy.out iz.out sx.out (fun w' h=>hPo.out w' (Ae' FB.out h))
theorem GD {w:World} {vb:Value} {p q:Rat} (hb:Aj w vb p q) (ep:0=p) (eq:0=q) :
   Calls Tryz.prog 6 #[vb] w (BF w true):=by
 have hs1:p.num.sign=0:=by rw [←ep];decide
 have hs2:q.num.sign=0:=by rw [←eq];decide
 have sp:Ab' p≤9:=by rw [←ep];decide +kernel
 have sq:Ab' q≤9:=by rw [←eq];decide +kernel
 clear ep eq
 replace hs1:=hid hs1
 replace hs2:=hid hs2
 replace sp:=hid sp
 replace sq:=hid sq
 obtain ⟨C1,j1,C2,j2,C3,j3,C4,j4,rfl,-,-⟩:=id hb.opened
 replace hb:=hid hb
 obtain ⟨w1,hw1⟩:=eX ((w.alloc (.cells #[.bool (decide (p.num<0)),.slice C1 (Vx.len p.num.natAbs) j1,.slice C2 (Vx.len (below p.den)) j2,.bool (decide (q.num<0)),.slice C3 (Vx.len q.num.natAbs) j3,.slice C4 (Vx.len (below q.den)) j4] 34)))
 have b1:=An w (.cells #[.bool (decide (p.num<0)),.slice C1 (Vx.len p.num.natAbs) j1,.slice C2 (Vx.len (below p.den)) j2,.bool (decide (q.num<0)),.slice C3 (Vx.len q.num.natAbs) j3,.slice C4 (Vx.len (below q.den)) j4] 34)
 have g1:=hA_ w (.cells #[.bool (decide (p.num<0)),.slice C1 (Vx.len p.num.natAbs) j1,.slice C2 (Vx.len (below p.den)) j2,.bool (decide (q.num<0)),.slice C3 (Vx.len q.num.natAbs) j3,.slice C4 (Vx.len (below q.den)) j4] 34)
 rw [←hw1] at b1 g1
 replace g1:=hid g1
 replace b1:=hid b1
 go_enter Tryz.func6,Tryz.ntmps6
 go_upto_region 1 with fail
 rw [←hw1]
 clear hw1
 obtain ⟨z_b_0,z_b_1,z_b_2,z_b_3,z_b_4,z_b_5⟩:=Af g1.out
 have HX:=hid (Bm (hb.out.keep b1.out) (nT sp.out (by omega)))
 go_wp2_with fail
 refine (HX.out).mono ?_
 rintro e w2 ⟨v2,rfl,hv2,b2⟩
 obtain ⟨C5,j5,C6,j6,rfl,-,-⟩:=id hv2.opened
 replace hv2:=hid hv2
 replace b2:=hid b2
 clear HX
 clear z_b_0 z_b_1 z_b_2 z_b_3 z_b_4 z_b_5
 have HX:=hid (BQ' hs1.out hv2.out)
 go_wp2_with fail
 refine (HX.out).mono ?_
 rintro e w3 ⟨rfl,b3⟩
 replace b3:=hid b3
 clear HX
 have y1_3:=hid (bS b2.out b3.out)
 obtain ⟨z_b_0,z_b_1,z_b_2,z_b_3,z_b_4,z_b_5⟩:=Af (Ac' g1.out y1_3.out)
 have y0_3:=hid (bS (bS b1.out b2.out) b3.out)
 have HX:=hid (BS (hb.out.keep y0_3.out) (nT sq.out (by omega)))
 go_wp2_with fail
 refine (HX.out).mono ?_
 rintro e w4 ⟨v4,rfl,hv4,b4⟩
 obtain ⟨C7,j7,C8,j8,rfl,-,-⟩:=id hv4.opened
 replace hv4:=hid hv4
 replace b4:=hid b4
 clear HX
 have HX:=hid (BQ' hs2.out hv4.out)
 go_wp2_with fail
 refine (HX.out).mono ?_
 rintro e w5 ⟨rfl,b5⟩
 replace b5:=hid b5
 clear HX
 have y0_5:=hid (bS (bS y0_3.out b4.out) b5.out)
 have FB:=hid y0_5.out
 go_wp2_with fail
 go_ret
 exact ⟨rfl,FB.out⟩
theorem GD' {w:World} {Ba Bb Bd:Nat} {a0 a1 m0 m1 d0 d1:Rat} {Bc s0 t0 D E:Nat} {M N:Int} {y0 y1 y2 y3 y4 y6 y8 y10 y12 y13 y14 y15 y16 y17 y18 y19 y20 y21 y22 y23 y24 y25 y26 y27 y28 y29 y30 y31 y32 y33 y34 y35 y36 y37 y38 y39 y40 y41 y42 y43 y44 y45 y46 y47 y48 y49 y50 y51 y52 y53 y54 y55 y56 y57 y58 y59 y60 y61 y62 y63 y64 y65 y66 y67 y68 y69 y70 y71 y72 y73 y74 y75 y76 y77 y78 y79 y80 y81 y82 y83 y84 y85 y86 y87 y88 y89 y90 y91 y92 y93 y94 y95 y96 y97 y98 y99 y100 y101 y102 y103 y104 y105 y106 y107 y108 y109 y110 y111 y112 y113 y114 y115 y116 y117 y118 y119 y120 y121 y122 y123 y124 y125 y126 y127 y128 y129 y130 y131 y132 y133 y134 y135 y136 y137 y138 y139 y140 y141 y142 y143 y144 y145 y146 y147 y148 y149 y150 y151 y152 y153 y154 y155 y156 y157 y158 y159 y160 y161 y162 y163 y164 y165 y166 y167 y168 y169 y170 y171 y172 y173 y174:Value} {Po:Ending→World→Prop} (ha:AH' w Ba (a0,a1)) (hb:AH' w Bb (m0,m1)) (hd:AH' w Bd (d0,d1)) (sa:Ab' a0≤20∧Ab' a1≤20) (sb:Ab' m0≤20∧Ab' m1≤20) (sd:Ab' d0≤20∧Ab' d1≤20) (hT:TabAt 0 Lib.deBruijn64tab w) (hc:w.heap[Bc]?=some (.cells #[.int .u8 ((s0:Nat):Int),.int .u8 ((t0:Nat):Int),.int .i32 M,.int .u8 ((D:Nat):Int),.int .i32 N,.int .u8 ((E:Nat):Int)] 28 (0,0))) (h1 : -2147483648≤M) (h2:M≤2147483647) (h3:D≤255) (h4 : -2147483648≤N) (h5:N≤2147483647) (h6:E≤255) (ia:a0≤a1) (ib:m0≤m1) (id_:d0≤d1) (hs0:s0≤255) (ht0:t0≤255) (h0:¬ (cornLo divisorQ a0 a1 m0 m1 d0 d1≤0∧0≤cornHi divisorQ a0 a1 m0 m1 d0 d1)) (hPo:∀ w',Below w.heap.size w w'→Po (.returned (.bool true)) w') :
   (codeAt 4 Tryz.f3).wp Tryz.prog (bodyPost Tryz.prog Tryz.f3 Po) { tmps:=#[y0,y1,y2,y3,y4,.pointer (some ⟨Bc,0,none⟩),y6,.pointer (some ⟨Ba,0,none⟩),y8,.pointer (some ⟨Bb,0,none⟩),y10,.pointer (some ⟨Bd,0,none⟩),y12,y13,y14,y15,y16,y17,y18,y19,y20,y21,y22,y23,y24,y25,y26,y27,y28,y29,y30,y31,y32,y33,y34,y35,y36,y37,y38,y39,y40,y41,y42,y43,y44,y45,y46,y47,y48,y49,y50,y51,y52,y53,y54,y55,y56,y57,y58,y59,y60,y61,y62,y63,y64,y65,y66,y67,y68,y69,y70,y71,y72,y73,y74,y75,y76,y77,y78,y79,y80,y81,y82,y83,y84,y85,y86,y87,y88,y89,y90,y91,y92,y93,y94,y95,y96,y97,y98,y99,y100,y101,y102,y103,y104,y105,y106,y107,y108,y109,y110,y111,y112,y113,y114,y115,y116,y117,y118,y119,y120,y121,y122,y123,y124,y125,y126,y127,y128,y129,y130,y131,y132,y133,y134,y135,y136,y137,y138,y139,y140,y141,y142,y143,y144,y145,y146,y147,y148,y149,y150,y151,y152,y153,y154,y155,y156,y157,y158,y159,y160,y161,y162,y163,y164,y165,y166,y167,y168,y169,y170,y171,y172,y173,y174],defers:=[] } w:=by
 obtain ⟨k0,ek0⟩:=eY (cornLo Ap' a0 a1 m0 m1 d0 d1)
 obtain ⟨k1,ek1⟩:=eY (cornHi Ap' a0 a1 m0 m1 d0 d1)
 have hf:AZ' a0 a1 m0 m1 d0 d1 k0 k1:=⟨ek0,ek1,h0,sa,sb,sd⟩
 have lc:=Af' hc
 have Sa:Ab' a0≤1000000∧Ab' a1≤1000000:=⟨by omega,by omega⟩
 have Sb:Ab' m0≤1000000∧Ab' m1≤1000000:=⟨by omega,by omega⟩
 have Sd:Ab' d0≤1000000∧Ab' d1≤1000000:=⟨by omega,by omega⟩
 obtain ⟨Xa1,ca1,Xa2,ca2,Xa3,ca3,Xa4,ca4,ra,xa⟩:=id ha
 dsimp only at ra xa
 have la:=Af' ra
 replace ra:=hid ra
 replace xa:=hid xa
 obtain ⟨Xb1,cb1,Xb2,cb2,Xb3,cb3,Xb4,cb4,rb,xb⟩:=id hb
 dsimp only at rb xb
 have lb:=Af' rb
 replace rb:=hid rb
 replace xb:=hid xb
 obtain ⟨Xd1,cd1,Xd2,cd2,Xd3,cd3,Xd4,cd4,rdq,xd⟩:=id hd
 dsimp only at rdq xd
 have ld:=Af' rdq
 replace rdq:=hid rdq
 replace xd:=hid xd
 replace sa:=hid sa
 replace sb:=hid sb
 replace sd:=hid sd
 replace Sa:=hid Sa
 replace Sb:=hid Sb
 replace Sd:=hid Sd
 replace h0:=hid h0
 replace hT:=hid hT
 replace hPo:=hid hPo
 replace ha:=hid ha
 replace hb:=hid hb
 replace hd:=hid hd
 replace hc:=hid hc
 replace h1:=hid h1
 replace h2:=hid h2
 replace h3:=hid h3
 replace h4:=hid h4
 replace h5:=hid h5
 replace h6:=hid h6
 replace ia:=hid ia
 replace ib:=hid ib
 replace id_:=hid id_
 replace hs0:=hid hs0
 replace ht0:=hid ht0
 replace ek0:=hid ek0
 replace ek1:=hid ek1
 replace hf:=hid hf
 show Code.wp _ (Code.seq _ _) _ _ _
 obtain ⟨z_a_0,z_a_1,z_a_2,z_a_3,z_a_4,z_a_5⟩:=Af ra.out
 obtain ⟨z_b_0,z_b_1,z_b_2,z_b_3,z_b_4,z_b_5⟩:=Af rb.out
 obtain ⟨z_d_0,z_d_1,z_d_2,z_d_3,z_d_4,z_d_5⟩:=Af rdq.out
 have HX:=hid (BH xa.out xb.out xd.out Sa.out Sb.out Sd.out h0.out ek0.out ek1.out)
 go_wp2_with fail
 refine (HX.out).mono ?_
 rintro e w1 ⟨v1,rfl,hv1,b1⟩
 obtain ⟨C1,j1,C2,j2,C3,j3,C4,j4,rfl,-,-,-,-⟩:=id hv1.opened
 replace hv1:=hid hv1
 replace b1:=hid b1
 clear HX
 clear z_a_0 z_a_1 z_a_2 z_a_3 z_a_4 z_a_5 z_b_0 z_b_1 z_b_2 z_b_3 z_b_4 z_b_5 z_d_0 z_d_1 z_d_2 z_d_3 z_d_4 z_d_5
 go_upto_region 5 with fail
 rename_i G hG Gb hGb
 replace hG:=hid hG
 obtain ⟨w2,hw2⟩:=eX (w1.alloc (.cells #[.bool (decide (k0.num<0)),.slice C1 (Vx.len k0.num.natAbs) j1,.slice C2 (Vx.len (below k0.den)) j2,.bool (decide (k1.num<0)),.slice C3 (Vx.len k1.num.natAbs) j3,.slice C4 (Vx.len (below k1.den)) j4] 34))
 have b2:=hid (Ar hw2)
 have L2:=hid (At' hw2)
 rw [←hw2]
 clear hw2
 have y0_2:=hid (bS b1.out b2.out)
 have FB:=hid y0_2.out
 have HK:Hid (AH' w2 w1.heap.size (k0,k1)):=hid ⟨C1,j1,C2,j2,C3,j3,C4,j4,L2.out,(hv1.out.keep b2.out)⟩
 go_wp2_with fail
 refine hG.out _ _ ?_
 exact Eu' (ha.out.keep FB.out) (hb.out.keep FB.out) (hd.out.keep FB.out) HK.out hf.out (Ar' hT.out FB.out) (Ac' hc.out FB.out) h1.out h2.out h3.out h4.out h5.out h6.out ia.out ib.out id_.out hs0.out ht0.out (fun w' h=>hPo.out w' (Ae' FB.out h))
theorem Fi {w:World} {Ba Bb Bd:Nat} {a0 a1 m0 m1 d0 d1:Rat} {Bc s0 t0 D E:Nat} {M N:Int} {y0 y1 y2 y3 y4 y6 y8 y10 y12 y13 y14 y15 y16 y17 y18 y19 y20 y21 y22 y23 y24 y25 y26 y27 y28 y29 y30 y31 y32 y33 y34 y35 y36 y37 y38 y39 y40 y41 y42 y43 y44 y45 y46 y47 y48 y49 y50 y51 y52 y53 y54 y55 y56 y57 y58 y59 y60 y61 y62 y63 y64 y65 y66 y67 y68 y69 y70 y71 y72 y73 y74 y75 y76 y77 y78 y79 y80 y81 y82 y83 y84 y85 y86 y87 y88 y89 y90 y91 y92 y93 y94 y95 y96 y97 y98 y99 y100 y101 y102 y103 y104 y105 y106 y107 y108 y109 y110 y111 y112 y113 y114 y115 y116 y117 y118 y119 y120 y121 y122 y123 y124 y125 y126 y127 y128 y129 y130 y131 y132 y133 y134 y135 y136 y137 y138 y139 y140 y141 y142 y143 y144 y145 y146 y147 y148 y149 y150 y151 y152 y153 y154 y155 y156 y157 y158 y159 y160 y161 y162 y163 y164 y165 y166 y167 y168 y169 y170 y171 y172 y173 y174:Value} {Po:Ending→World→Prop} (ha:AH' w Ba (a0,a1)) (hb:AH' w Bb (m0,m1)) (hd:AH' w Bd (d0,d1)) (sa:Ab' a0≤20∧Ab' a1≤20) (sb:Ab' m0≤20∧Ab' m1≤20) (sd:Ab' d0≤20∧Ab' d1≤20) (hT:TabAt 0 Lib.deBruijn64tab w) (hc:w.heap[Bc]?=some (.cells #[.int .u8 ((s0:Nat):Int),.int .u8 ((t0:Nat):Int),.int .i32 M,.int .u8 ((D:Nat):Int),.int .i32 N,.int .u8 ((E:Nat):Int)] 28 (0,0))) (h1 : -2147483648≤M) (h2:M≤2147483647) (h3:D≤255) (h4 : -2147483648≤N) (h5:N≤2147483647) (h6:E≤255) (ia:a0≤a1) (ib:m0≤m1) (id_:d0≤d1) (hs0:s0≤255) (ht0:t0≤255) (h0:(cornLo divisorQ a0 a1 m0 m1 d0 d1≤0∧0≤cornHi divisorQ a0 a1 m0 m1 d0 d1)) (hPo:∀ w',Below w.heap.size w w'→Po (.returned (.bool true)) w') :
   (codeAt 4 Tryz.f3).wp Tryz.prog (bodyPost Tryz.prog Tryz.f3 Po) { tmps:=#[y0,y1,y2,y3,y4,.pointer (some ⟨Bc,0,none⟩),y6,.pointer (some ⟨Ba,0,none⟩),y8,.pointer (some ⟨Bb,0,none⟩),y10,.pointer (some ⟨Bd,0,none⟩),y12,y13,y14,y15,y16,y17,y18,y19,y20,y21,y22,y23,y24,y25,y26,y27,y28,y29,y30,y31,y32,y33,y34,y35,y36,y37,y38,y39,y40,y41,y42,y43,y44,y45,y46,y47,y48,y49,y50,y51,y52,y53,y54,y55,y56,y57,y58,y59,y60,y61,y62,y63,y64,y65,y66,y67,y68,y69,y70,y71,y72,y73,y74,y75,y76,y77,y78,y79,y80,y81,y82,y83,y84,y85,y86,y87,y88,y89,y90,y91,y92,y93,y94,y95,y96,y97,y98,y99,y100,y101,y102,y103,y104,y105,y106,y107,y108,y109,y110,y111,y112,y113,y114,y115,y116,y117,y118,y119,y120,y121,y122,y123,y124,y125,y126,y127,y128,y129,y130,y131,y132,y133,y134,y135,y136,y137,y138,y139,y140,y141,y142,y143,y144,y145,y146,y147,y148,y149,y150,y151,y152,y153,y154,y155,y156,y157,y158,y159,y160,y161,y162,y163,y164,y165,y166,y167,y168,y169,y170,y171,y172,y173,y174],defers:=[] } w:=by
 obtain ⟨o,eo⟩:=eY (0:Rat)
 have so:Ab' o≤9:=by rw [←eo];decide +kernel
 have lc:=Af' hc
 have Sa:Ab' a0≤1000000∧Ab' a1≤1000000:=⟨by omega,by omega⟩
 have Sb:Ab' m0≤1000000∧Ab' m1≤1000000:=⟨by omega,by omega⟩
 have Sd:Ab' d0≤1000000∧Ab' d1≤1000000:=⟨by omega,by omega⟩
 obtain ⟨Xa1,ca1,Xa2,ca2,Xa3,ca3,Xa4,ca4,ra,xa⟩:=id ha
 dsimp only at ra xa
 have la:=Af' ra
 replace ra:=hid ra
 replace xa:=hid xa
 obtain ⟨Xb1,cb1,Xb2,cb2,Xb3,cb3,Xb4,cb4,rb,xb⟩:=id hb
 dsimp only at rb xb
 have lb:=Af' rb
 replace rb:=hid rb
 replace xb:=hid xb
 obtain ⟨Xd1,cd1,Xd2,cd2,Xd3,cd3,Xd4,cd4,rdq,xd⟩:=id hd
 dsimp only at rdq xd
 have ld:=Af' rdq
 replace rdq:=hid rdq
 replace xd:=hid xd
 replace sa:=hid sa
 replace sb:=hid sb
 replace sd:=hid sd
 replace Sa:=hid Sa
 replace Sb:=hid Sb
 replace Sd:=hid Sd
 replace h0:=hid h0
 replace hT:=hid hT
 replace hPo:=hid hPo
 replace ha:=hid ha
 replace hb:=hid hb
 replace hd:=hid hd
 replace hc:=hid hc
 replace h1:=hid h1
 replace h2:=hid h2
 replace h3:=hid h3
 replace h4:=hid h4
 replace h5:=hid h5
 replace h6:=hid h6
 replace ia:=hid ia
 replace ib:=hid ib
 replace id_:=hid id_
 replace hs0:=hid hs0
 replace ht0:=hid ht0
 replace eo:=hid eo
 replace so:=hid so
 show Code.wp _ (Code.seq _ _) _ _ _
 obtain ⟨z_a_0,z_a_1,z_a_2,z_a_3,z_a_4,z_a_5⟩:=Af ra.out
 obtain ⟨z_b_0,z_b_1,z_b_2,z_b_3,z_b_4,z_b_5⟩:=Af rb.out
 obtain ⟨z_d_0,z_d_1,z_d_2,z_d_3,z_d_4,z_d_5⟩:=Af rdq.out
 have HX:=hid ((show Calls _ _ _ _ (Bw' _ o o 42) from eo.out ▸ Dn' xa.out xb.out xd.out Sa.out Sb.out Sd.out h0.out))
 go_wp2_with fail
 refine (HX.out).mono ?_
 rintro e w1 ⟨v1,rfl,hv1,b1⟩
 obtain ⟨C1,j1,C2,j2,C3,j3,C4,j4,rfl,-,-,-,-⟩:=id hv1.opened
 replace hv1:=hid hv1
 replace b1:=hid b1
 clear HX
 clear z_a_0 z_a_1 z_a_2 z_a_3 z_a_4 z_a_5 z_b_0 z_b_1 z_b_2 z_b_3 z_b_4 z_b_5 z_d_0 z_d_1 z_d_2 z_d_3 z_d_4 z_d_5
 go_upto_region 5 with fail
 rename_i G hG Gb hGb
 replace hG:=hid hG
 obtain ⟨w2,hw2⟩:=eX (w1.alloc (.cells #[.bool (decide (o.num<0)),.slice C1 (Vx.len o.num.natAbs) j1,.slice C2 (Vx.len (below o.den)) j2,.bool (decide (o.num<0)),.slice C3 (Vx.len o.num.natAbs) j3,.slice C4 (Vx.len (below o.den)) j4] 34))
 have b2:=hid (Ar hw2)
 have L2:=hid (At' hw2)
 rw [←hw2]
 clear hw2
 obtain ⟨z_k_0,z_k_1,z_k_2,z_k_3,z_k_4,z_k_5⟩:=Af L2.out
 have HX:=hid (GD (hv1.out.keep b2.out) eo.out eo.out)
 go_wp2_with fail
 refine (HX.out).mono ?_
 rintro e w3 ⟨rfl,b3⟩
 replace b3:=hid b3
 clear HX
 have y0_3:=hid (bS (bS b1.out b2.out) b3.out)
 have HX:=hid (DT' (Ar' hT.out y0_3.out))
 go_wp2_with fail
 refine (HX.out).mono ?_
 rintro e w4 ⟨rfl,b4⟩
 replace b4:=hid b4
 clear HX
 have y0_4:=hid (bS y0_3.out b4.out)
 have FB:=hid y0_4.out
 go_wp2_with fail
 exact hPo.out _ FB.out
theorem DE {x y l h:Rat} (el:leastOf x [y]=l) (eh:greatestOf x [y]=h) (sx:Ab' x≤20) (sy:Ab' y≤20):(Ab' l≤20∧Ab' h≤20)∧l≤h:=by
 have hx:∀ q∈x::[y],Ab' q≤20:=by
   intro q hq
   simp only [List.mem_cons,List.not_mem_nil,or_false] at hq
   rcases hq with rfl | rfl <;> assumption
 rw [←el,←eh]
 exact ⟨⟨hx _ (A7' x [y]).1,hx _ (AN x [y]).1⟩,BI' x [y]⟩
theorem EY' {w:World} {I0 I1 I2 I3 I4 I5 M N:Int} {D0 D1 D2 D3 D4 D5 s0 t0 D E:Nat} (u0 : -2147483648≤I0) (v0:I0≤2147483647) (w0_:D0≤255) (u1 : -2147483648≤I1) (v1:I1≤2147483647) (w1_:D1≤255) (u2 : -2147483648≤I2) (v2:I2≤2147483647) (w2_:D2≤255) (u3 : -2147483648≤I3) (v3:I3≤2147483647) (w3_:D3≤255) (u4 : -2147483648≤I4) (v4:I4≤2147483647) (w4_:D4≤255) (u5 : -2147483648≤I5) (v5:I5≤2147483647) (w5_:D5≤255) (h1 : -2147483648≤M) (h2:M≤2147483647) (h3:D≤255) (h4 : -2147483648≤N) (h5:N≤2147483647) (h6:E≤255) (hs0:s0≤255) (ht0:t0≤255) (hT:TabAt 0 Lib.deBruijn64tab w) :
   Calls Tryz.prog 3 #[.agg #[.int .i32 I0,.int .u8 ((D0:Nat):Int),.int .i32 I1,.int .u8 ((D1:Nat):Int)],.agg #[.int .i32 I2,.int .u8 ((D2:Nat):Int),.int .i32 I3,.int .u8 ((D3:Nat):Int),.int .i32 I4,.int .u8 ((D4:Nat):Int),.int .i32 I5,.int .u8 ((D5:Nat):Int)],.agg #[.int .u8 ((s0:Nat):Int),.int .u8 ((t0:Nat):Int),.int .i32 M,.int .u8 ((D:Nat):Int),.int .i32 N,.int .u8 ((E:Nat):Int)]] w (BF w true):=by
 obtain ⟨x0,ex0⟩:=eY (AE I0 D0)
 have sx0:=AK u0 v0 ex0
 obtain ⟨x1,ex1⟩:=eY (AE I1 D1)
 have sx1:=AK u1 v1 ex1
 obtain ⟨x2,ex2⟩:=eY (AE I2 D2)
 have sx2:=AK u2 v2 ex2
 obtain ⟨x3,ex3⟩:=eY (AE I3 D3)
 have sx3:=AK u3 v3 ex3
 obtain ⟨x4,ex4⟩:=eY (AE I4 D4)
 have sx4:=AK u4 v4 ex4
 obtain ⟨x5,ex5⟩:=eY (AE I5 D5)
 have sx5:=AK u5 v5 ex5
 obtain ⟨a0,ela⟩:=eY (leastOf x0 [x1])
 obtain ⟨a1,eha⟩:=eY (greatestOf x0 [x1])
 have sza:=DE ela eha sx0 sx1
 obtain ⟨m0,elb⟩:=eY (leastOf x2 [x3])
 obtain ⟨m1,ehb⟩:=eY (greatestOf x2 [x3])
 have szb:=DE elb ehb sx2 sx3
 obtain ⟨d0,eld⟩:=eY (leastOf x4 [x5])
 obtain ⟨d1,ehd⟩:=eY (greatestOf x4 [x5])
 have szd:=DE eld ehd sx4 sx5
 obtain ⟨w1,hw⟩:=eX (((w.alloc (.cells #[.int .i32 I0,.int .u8 ((D0:Nat):Int),.int .i32 I1,.int .u8 ((D1:Nat):Int)] 25)).alloc (.cells #[.int .i32 I2,.int .u8 ((D2:Nat):Int),.int .i32 I3,.int .u8 ((D3:Nat):Int),.int .i32 I4,.int .u8 ((D4:Nat):Int),.int .i32 I5,.int .u8 ((D5:Nat):Int)] 26)).alloc (.cells #[.int .u8 ((s0:Nat):Int),.int .u8 ((t0:Nat):Int),.int .i32 M,.int .u8 ((D:Nat):Int),.int .i32 N,.int .u8 ((E:Nat):Int)] 28))
 obtain ⟨b1,g1,g2,g3⟩:=AD hw
 have z0:w1.cell? ⟨w.heap.size,0,none⟩=some (.int .i32 I0):=cR _ _ 0 _ _ _ g1
 have z1:w1.cell? ⟨w.heap.size,1,none⟩=some (.int .u8 ((D0:Nat):Int)):=cR _ _ 1 _ _ _ g1
 have z2:w1.cell? ⟨w.heap.size,2,none⟩=some (.int .i32 I1):=cR _ _ 2 _ _ _ g1
 have z3:w1.cell? ⟨w.heap.size,3,none⟩=some (.int .u8 ((D1:Nat):Int)):=cR _ _ 3 _ _ _ g1
 replace b1:=hid b1
 replace g1:=hid g1
 replace g2:=hid g2
 replace g3:=hid g3
 replace hT:=hid hT
 replace h1:=hid h1
 replace h2:=hid h2
 replace h3:=hid h3
 replace h4:=hid h4
 replace h5:=hid h5
 replace h6:=hid h6
 replace hs0:=hid hs0
 replace ht0:=hid ht0
 replace ex0:=hid ex0
 replace u0:=hid u0
 replace v0:=hid v0
 replace ex1:=hid ex1
 replace u1:=hid u1
 replace v1:=hid v1
 replace ex2:=hid ex2
 replace u2:=hid u2
 replace v2:=hid v2
 replace ex3:=hid ex3
 replace u3:=hid u3
 replace v3:=hid v3
 replace ex4:=hid ex4
 replace u4:=hid u4
 replace v4:=hid v4
 replace ex5:=hid ex5
 replace u5:=hid u5
 replace v5:=hid v5
 replace w0_:=hid w0_
 replace w1_:=hid w1_
 replace w2_:=hid w2_
 replace w3_:=hid w3_
 replace w4_:=hid w4_
 replace w5_:=hid w5_
 replace ela:=hid ela
 replace eha:=hid eha
 replace elb:=hid elb
 replace ehb:=hid ehb
 replace eld:=hid eld
 replace ehd:=hid ehd
 replace sza:=hid sza
 replace szb:=hid szb
 replace szd:=hid szd
 clear sx0 sx1 sx2 sx3 sx4 sx5
 go_enter Tryz.func3,Tryz.ntmps3
 go_upto_region 1 with fail
 rw [←hw]
 clear hw
 have HX:=hid (CX' (w:=w1) u0.out v0.out w0_.out u1.out v1.out w1_.out ex0.out ex1.out ela.out eha.out)
 go_wp2_with fail
 refine (HX.out).mono ?_
 rintro e w2 ⟨va2,vb2,rfl,ha2,hb2,b2⟩
 obtain ⟨C1,j1,C2,j2,C3,j3,C4,j4,rfl,-,-,-,-⟩:=id ha2.opened
 replace ha2:=hid ha2
 obtain ⟨C5,j5,C6,j6,C7,j7,C8,j8,rfl,-,-,-,-⟩:=id hb2.opened
 replace hb2:=hid hb2
 replace b2:=hid b2
 clear HX
 go_upto_region 2 with fail
 obtain ⟨w3,hw3⟩:=eX ((w2.alloc (.cells #[.bool (decide (a0.num<0)),.slice C1 (Vx.len a0.num.natAbs) j1,.slice C2 (Vx.len (below a0.den)) j2,.bool (decide (a1.num<0)),.slice C3 (Vx.len a1.num.natAbs) j3,.slice C4 (Vx.len (below a1.den)) j4] 34)).alloc (.cells #[.bool (decide (a0.num<0)),.slice C5 (len a0.num.natAbs) j5,.slice C6 (len a0.den) j6,.bool (decide (a1.num<0)),.slice C7 (len a1.num.natAbs) j7,.slice C8 (len a1.den) j8] 40))
 obtain ⟨b3,L3,M3⟩:=CV hw3
 rw [←hw3]
 clear hw3
 replace b3:=hid b3
 replace L3:=hid L3
 replace M3:=hid M3
 clear z0 z1 z2 z3
 have y1_3:=hid (bS b2.out b3.out)
 have gS:=Ac' g2.out y1_3.out
 have z0:w3.cell? ⟨w.heap.size+1,0,none⟩=some (.int .i32 I2):=cR _ _ 0 _ _ _ gS
 have z1:w3.cell? ⟨w.heap.size+1,1,none⟩=some (.int .u8 ((D2:Nat):Int)):=cR _ _ 1 _ _ _ gS
 have z2:w3.cell? ⟨w.heap.size+1,2,none⟩=some (.int .i32 I3):=cR _ _ 2 _ _ _ gS
 have z3:w3.cell? ⟨w.heap.size+1,3,none⟩=some (.int .u8 ((D3:Nat):Int)):=cR _ _ 3 _ _ _ gS
 clear gS
 have HX:=hid (CX' (w:=w3) u2.out v2.out w2_.out u3.out v3.out w3_.out ex2.out ex3.out elb.out ehb.out)
 go_wp2_with fail
 refine (HX.out).mono ?_
 rintro e w4 ⟨va4,vb4,rfl,ha4,hb4,b4⟩
 obtain ⟨C9,j9,C10,j10,C11,j11,C12,j12,rfl,-,-,-,-⟩:=id ha4.opened
 replace ha4:=hid ha4
 obtain ⟨C13,j13,C14,j14,C15,j15,C16,j16,rfl,-,-,-,-⟩:=id hb4.opened
 replace hb4:=hid hb4
 replace b4:=hid b4
 clear HX
 go_upto_region 3 with fail
 obtain ⟨w5,hw5⟩:=eX ((w4.alloc (.cells #[.bool (decide (m0.num<0)),.slice C9 (Vx.len m0.num.natAbs) j9,.slice C10 (Vx.len (below m0.den)) j10,.bool (decide (m1.num<0)),.slice C11 (Vx.len m1.num.natAbs) j11,.slice C12 (Vx.len (below m1.den)) j12] 34)).alloc (.cells #[.bool (decide (m0.num<0)),.slice C13 (len m0.num.natAbs) j13,.slice C14 (len m0.den) j14,.bool (decide (m1.num<0)),.slice C15 (len m1.num.natAbs) j15,.slice C16 (len m1.den) j16] 40))
 obtain ⟨b5,L5,M5⟩:=CV hw5
 rw [←hw5]
 clear hw5
 replace b5:=hid b5
 replace L5:=hid L5
 replace M5:=hid M5
 clear z0 z1 z2 z3
 rename_i G hG
 replace hG:=hid hG
 have y1_5:=hid (bS (bS y1_3.out b4.out) b5.out)
 have gS:=Ac' g2.out y1_5.out
 have z4:w5.cell? ⟨w.heap.size+1,4,none⟩=some (.int .i32 I4):=cR _ _ 4 _ _ _ gS
 have z5:w5.cell? ⟨w.heap.size+1,5,none⟩=some (.int .u8 ((D4:Nat):Int)):=cR _ _ 5 _ _ _ gS
 have z6:w5.cell? ⟨w.heap.size+1,6,none⟩=some (.int .i32 I5):=cR _ _ 6 _ _ _ gS
 have z7:w5.cell? ⟨w.heap.size+1,7,none⟩=some (.int .u8 ((D5:Nat):Int)):=cR _ _ 7 _ _ _ gS
 clear gS
 have HX:=hid (CX' (w:=w5) u4.out v4.out w4_.out u5.out v5.out w5_.out ex4.out ex5.out eld.out ehd.out)
 go_wp2_with fail
 refine (HX.out).mono ?_
 rintro e w6 ⟨va6,vb6,rfl,ha6,hb6,b6⟩
 obtain ⟨C17,j17,C18,j18,C19,j19,C20,j20,rfl,-,-,-,-⟩:=id ha6.opened
 replace ha6:=hid ha6
 obtain ⟨C21,j21,C22,j22,C23,j23,C24,j24,rfl,-,-,-,-⟩:=id hb6.opened
 replace hb6:=hid hb6
 replace b6:=hid b6
 clear HX
 go_wp2_with fail
 obtain ⟨w7,hw7⟩:=eX ((w6.alloc (.cells #[.bool (decide (d0.num<0)),.slice C17 (Vx.len d0.num.natAbs) j17,.slice C18 (Vx.len (below d0.den)) j18,.bool (decide (d1.num<0)),.slice C19 (Vx.len d1.num.natAbs) j19,.slice C20 (Vx.len (below d1.den)) j20] 34)).alloc (.cells #[.bool (decide (d0.num<0)),.slice C21 (len d0.num.natAbs) j21,.slice C22 (len d0.den) j22,.bool (decide (d1.num<0)),.slice C23 (len d1.num.natAbs) j23,.slice C24 (len d1.den) j24] 40))
 obtain ⟨b7,L7,M7⟩:=CV hw7
 rw [←hw7]
 clear hw7
 replace b7:=hid b7
 replace L7:=hid L7
 replace M7:=hid M7
 refine hG.out _ _ ?_
 have y3_7:=hid (bS (bS (bS b4.out b5.out) b6.out) b7.out)
 have y2_7:=hid (bS (bS (bS (bS b3.out b4.out) b5.out) b6.out) b7.out)
 have Ra:AH' w7 w2.heap.size (a0,a1):=⟨C1,j1,C2,j2,C3,j3,C4,j4,(Ac' L3.out y3_7.out),(ha2.out.keep y2_7.out)⟩
 have y5_7:=hid (bS b6.out b7.out)
 have y4_7:=hid (bS (bS b5.out b6.out) b7.out)
 have Rb:AH' w7 w4.heap.size (m0,m1):=⟨C9,j9,C10,j10,C11,j11,C12,j12,(Ac' L5.out y5_7.out),(ha4.out.keep y4_7.out)⟩
 have Rd:AH' w7 w6.heap.size (d0,d1):=⟨C17,j17,C18,j18,C19,j19,C20,j20,L7.out,(ha6.out.keep b7.out)⟩
 have y0_7:=hid (bS (bS (bS (bS (bS (bS b1.out b2.out) b3.out) b4.out) b5.out) b6.out) b7.out)
 have y1_7:=hid (bS (bS y1_5.out b6.out) b7.out)
 have FB:=y0_7.out
 have FC:=Ac' g3.out y1_7.out
 rcases Decidable.em (cornLo divisorQ a0 a1 m0 m1 d0 d1≤0∧0≤cornHi divisorQ a0 a1 m0 m1 d0 d1) with h0 | h0
 · exact Fi Ra Rb Rd sza.out.1 szb.out.1 szd.out.1 (Ar' hT.out FB) FC h1.out h2.out h3.out h4.out h5.out h6.out sza.out.2 szb.out.2 szd.out.2 hs0.out ht0.out h0 (fun w' h=>⟨rfl,Ae' FB h⟩)
 · exact GD' Ra Rb Rd sza.out.1 szb.out.1 szd.out.1 (Ar' hT.out FB) FC h1.out h2.out h3.out h4.out h5.out h6.out sza.out.2 szb.out.2 szd.out.2 hs0.out ht0.out h0 (fun w' h=>⟨rfl,Ae' FB h⟩)
end Go.Proofs.YtcicfnlljdnagaaGreatDoor.Rf
