/-
  Contracts of the functions that the law calls, for every input (TI).
-/
import Derived.Test.YtflopjfnppolgaaGreatDoorZ00
import Derived.Test.YtflopjfnppolgaaGreatDoorZ48
set_option linter.all false
set_option maxRecDepth 100000
set_option maxHeartbeats 40000000
namespace Go.Proofs.YtflopjfnppolgaaGreatDoor.Rf
open Lib (hid)
open Go.RowKit
open Rx
open Vx (Aa' Ai Ai')
open List renaming flatMap_cons → zfa, flatMap_nil → zfb, append_nil → zfc, nil_append → zfd, cons_append → zfe, foldl_cons → zff, foldl_nil → zfg, getElem?_toArray → lg, getElem?_cons_zero → lz, getElem?_cons_succ → ls, setIfInBounds_toArray → lt, set_cons_zero → ly, set_cons_succ → lu
def SlT (ad:Option Addr) (n c px pr:Nat) (ka ke:Int) (A:Array Value):Prop:=∀ R:Array Value→Prop,(∀ y0 y2 y3 y4 y6 y7 y11 y12 y13 y14 y15 y16 y17 y18 y19 y20 y21 y22 y23 y24 y25 y26 y27 y28 y29 y30 y31 y32 y33 y34 y35 y36 y37 y38 y39 y40 y41 y42 y43 y44 y45 y46 y47 y48 y49 y50 y51 y52 y53 y54 y55 y56 y57 y58 y59 y60 y61 y62 y63 y64 y65 y66 y67 y68 y69 y70 y71 y72 y73 y74 y75 y76 y77 y78 y79 y80 y81 y82 y83 y84 y85 y86 y87 y88 y89 y90 y91 y92 y93 y94 y95 y96 y97 y98 y99 y100 y101 y102 y103 y104 y105 y106 y107 y108 y109 y110 y111 y112:Value,R #[y0,.slice ad n c,y2,y3,y4,.pointer (some ⟨px,0,none⟩),y6,y7,.pointer (some ⟨pr,0,none⟩),.int .u8 ka,.int .i64 ke,y11,y12,y13,y14,y15,y16,y17,y18,y19,y20,y21,y22,y23,y24,y25,y26,y27,y28,y29,y30,y31,y32,y33,y34,y35,y36,y37,y38,y39,y40,y41,y42,y43,y44,y45,y46,y47,y48,y49,y50,y51,y52,y53,y54,y55,y56,y57,y58,y59,y60,y61,y62,y63,y64,y65,y66,y67,y68,y69,y70,y71,y72,y73,y74,y75,y76,y77,y78,y79,y80,y81,y82,y83,y84,y85,y86,y87,y88,y89,y90,y91,y92,y93,y94,y95,y96,y97,y98,y99,y100,y101,y102,y103,y104,y105,y106,y107,y108,y109,y110,y111,y112])→R A
theorem D0' {w:World} {M0 M1 M2 M3 M4:Int} {D0 D1 D2 D3 D4:Nat} {n c:Nat} {ad:Option Addr} (hn:40<n∧n≤200) (hT:TabAt 0 Lib.deBruijn64tab w) :
   Calls Tryz.prog 3 #[.agg #[.int .i32 M0,.int .u8 ((D0:Nat):Int),.int .i32 M1,.int .u8 ((D1:Nat):Int),.int .i32 M2,.int .u8 ((D2:Nat):Int)],.slice ad n c,.agg #[.int .i32 M3,.int .u8 ((D3:Nat):Int),.int .i32 M4,.int .u8 ((D4:Nat):Int)]] w (AI' w true):=by
 have e1:decide (((n:Nat):Int)>40)=true:=dT_ (by omega)
 have e2:decide (((n:Nat):Int)≤200)=true:=dT_ (by omega)
 replace hT:=hid hT
 obtain ⟨w1,hw1⟩:=eX ((w.alloc (.cells #[.int .i32 M0,.int .u8 ((D0:Nat):Int),.int .i32 M1,.int .u8 ((D1:Nat):Int),.int .i32 M2,.int .u8 ((D2:Nat):Int)] 27)).alloc (.cells #[.int .i32 M3,.int .u8 ((D3:Nat):Int),.int .i32 M4,.int .u8 ((D4:Nat):Int)] 30))
 obtain ⟨b1,g1,g2⟩:=Ch hw1
 replace b1:=hid b1
 replace g1:=hid g1
 replace g2:=hid g2
 go_enter Tryz.func3,Tryz.ntmps3
 go_upto_region 1 with fail
 rw [←hw1]
 clear hw1
 have HX:=hid (Bq' (w:=w1) (Au' hT.out b1.out))
 go_wp2_with fail
 refine (HX.out).mono ?_
 rintro e w2 ⟨rfl,b2⟩
 clear HX
 go_wp2_with fail
 go_ret
 exact ⟨rfl,bS b1.out b2⟩
theorem D1' {w:World} {M0 M1 M2 M3 M4:Int} {D0 D1 D2 D3 D4:Nat} {n c:Nat} {ad:Option Addr} (hn:210<n) (hT:TabAt 0 Lib.deBruijn64tab w) :
   Calls Tryz.prog 3 #[.agg #[.int .i32 M0,.int .u8 ((D0:Nat):Int),.int .i32 M1,.int .u8 ((D1:Nat):Int),.int .i32 M2,.int .u8 ((D2:Nat):Int)],.slice ad n c,.agg #[.int .i32 M3,.int .u8 ((D3:Nat):Int),.int .i32 M4,.int .u8 ((D4:Nat):Int)]] w (AI' w true):=by
 have e1:decide (((n:Nat):Int)>40)=true:=dT_ (by omega)
 have e2:decide (((n:Nat):Int)≤200)=false:=dF_ (by omega)
 have e3:decide (((n:Nat):Int)>210)=true:=dT_ (by omega)
 replace hT:=hid hT
 obtain ⟨w1,hw1⟩:=eX ((w.alloc (.cells #[.int .i32 M0,.int .u8 ((D0:Nat):Int),.int .i32 M1,.int .u8 ((D1:Nat):Int),.int .i32 M2,.int .u8 ((D2:Nat):Int)] 27)).alloc (.cells #[.int .i32 M3,.int .u8 ((D3:Nat):Int),.int .i32 M4,.int .u8 ((D4:Nat):Int)] 30))
 obtain ⟨b1,g1,g2⟩:=Ch hw1
 replace b1:=hid b1
 replace g1:=hid g1
 replace g2:=hid g2
 go_enter Tryz.func3,Tryz.ntmps3
 go_upto_region 1 with fail
 rw [←hw1]
 clear hw1
 have HX:=hid (Bq' (w:=w1) (Au' hT.out b1.out))
 go_wp2_with fail
 refine (HX.out).mono ?_
 rintro e w2 ⟨rfl,b2⟩
 clear HX
 go_wp2_with fail
 go_ret
 exact ⟨rfl,bS b1.out b2⟩
theorem Bg' {w:World} {M0 M1 M2 M3 M4:Int} {D0 D1 D2 D3 D4:Nat} {x y a b r m s:Rat} {n c:Nat} {ad:Option Addr} {l:List (Int × Nat)} {ka ke:Int} (c0 : -2147483648≤M0∧M0≤2147483647) (h0:D0≤255) (c1 : -2147483648≤M1∧M1≤2147483647) (h1:D1≤255) (c2 : -2147483648≤M2∧M2≤2147483647) (h2_:D2≤255) (c3 : -2147483648≤M3∧M3≤2147483647) (h3:D3≤255) (c4 : -2147483648≤M4∧M4≤2147483647) (h4:D4≤255) (ex:As M0 D0=x) (ey:As M1 D1=y) (er:As M2 D2=r) (el:leastOf x [y]=a) (eh:greatestOf x [y]=b) (em:As M3 D3=m) (es:As M4 D4=s) (hl:AQ w ad l) (hok:Bg l) (hn:n=l.length) (hsz:n≤40) (hTi:∀ (U:World) (v vm vs:Value) (g cap:Nat),Below w.heap.size w U→AA' U v a b r→Ac' U vm m→Ac' U vs s→AG U g 0 (Aw' l)→Calls Tryz.prog 7 #[v,.slice (some ⟨g,0,none⟩) n cap,vm,vs] U (fun e w'=>e=.returned (.tuple #[.int .u8 ka,.int .i64 ke])∧Below U.heap.size U w')) (hBk:∀ (w':World) (px pr:Nat) (A1 B1 A2 B2 A3 B3:Option Addr) (c1 d1 c2 d2 c3 d3:Nat) (A:Array Value),Below w.heap.size w w'→w'.heap[pr]?=some (.cells #[.bool (decide (a.num<0)),.slice A1 (len a.num.natAbs) c1,.slice B1 (len a.den) d1,.bool (decide (b.num<0)),.slice A2 (len b.num.natAbs) c2,.slice B2 (len b.den) d2,.bool (decide (r.num<0)),.slice A3 (len r.num.natAbs) c3,.slice B3 (len r.den) d3] 47 (0,0))→AX w' (.agg #[.bool (decide (a.num<0)),.slice A1 (len a.num.natAbs) c1,.slice B1 (len a.den) d1,.bool (decide (b.num<0)),.slice A2 (len b.num.natAbs) c2,.slice B2 (len b.den) d2,.bool (decide (r.num<0)),.slice A3 (len r.num.natAbs) c3,.slice B3 (len r.den) d3]) a b r→w'.heap[px]?=some (.cells #[.int .i32 M3,.int .u8 ((D3:Nat):Int),.int .i32 M4,.int .u8 ((D4:Nat):Int)] 30 (0,0))→SlT ad n c px pr ka ke A→(codeAt 4 Tryz.f3).wp Tryz.prog (bodyPost Tryz.prog Tryz.f3 (AI' w true)) { tmps:=A,defers:=[] } w')  :
   Calls Tryz.prog 3 #[.agg #[.int .i32 M0,.int .u8 ((D0:Nat):Int),.int .i32 M1,.int .u8 ((D1:Nat):Int),.int .i32 M2,.int .u8 ((D2:Nat):Int)],.slice ad n c,.agg #[.int .i32 M3,.int .u8 ((D3:Nat):Int),.int .i32 M4,.int .u8 ((D4:Nat):Int)]] w (AI' w true):=by
 have e1:decide (((n:Nat):Int)>40)=false:=dF_ (by omega)
 have e3:decide (((n:Nat):Int)>210)=false:=dF_ (by omega)
 replace ex:=hid ex
 replace ey:=hid ey
 replace er:=hid er
 replace el:=hid el
 replace eh:=hid eh
 replace em:=hid em
 replace es:=hid es
 replace hl:=hid hl
 replace hok:=hid hok
 replace hn:=hid hn
 replace hTi:=hid hTi
 replace hBk:=hid hBk
 obtain ⟨w1,hw1⟩:=eX ((w.alloc (.cells #[.int .i32 M0,.int .u8 ((D0:Nat):Int),.int .i32 M1,.int .u8 ((D1:Nat):Int),.int .i32 M2,.int .u8 ((D2:Nat):Int)] 27)).alloc (.cells #[.int .i32 M3,.int .u8 ((D3:Nat):Int),.int .i32 M4,.int .u8 ((D4:Nat):Int)] 30))
 obtain ⟨b1,g1,g2⟩:=Ch hw1
 replace b1:=hid b1
 replace g1:=hid g1
 replace g2:=hid g2
 go_enter Tryz.func3,Tryz.ntmps3
 go_upto_region 1 with fail
 rw [←hw1]
 clear hw1
 obtain ⟨z0,z1,z2,z3,z4,z5⟩:=Aj g1.out
 have HX:=hid (Dk (w:=w1) c0.1 c0.2 h0 c1.1 c1.2 h1 ex.out ey.out c2.1 c2.2 h2_ er.out el.out eh.out)
 go_wp2_with fail
 refine (HX.out).mono ?_
 rintro e w2 ⟨v,v2,rfl,hv,hv2,b2⟩
 clear HX z0 z1 z2 z3 z4 z5
 obtain ⟨C1,j1,C2,j2,C3,j3,C4,j4,C5,j5,C6,j6,rfl,-,-⟩:=id hv.opened
 obtain ⟨A1,e1_,B1,d1,A2,e2_,B2,d2,A3,e3_,B3,d3,rfl,-,-⟩:=id hv2
 go_upto_region 4 with fail
 rename_i G hG
 replace hG:=hid hG
 obtain ⟨w3,hw3⟩:=eX ((w2.alloc (.cells #[.bool (decide (a.num<0)),.slice C1 (Vx.len a.num.natAbs) j1,.slice C2 (Vx.len (below a.den)) j2,.bool (decide (b.num<0)),.slice C3 (Vx.len b.num.natAbs) j3,.slice C4 (Vx.len (below b.den)) j4,.bool (decide (r.num<0)),.slice C5 (Vx.len r.num.natAbs) j5,.slice C6 (Vx.len (below r.den)) j6] 39)).alloc (.cells #[.bool (decide (a.num<0)),.slice A1 (len a.num.natAbs) e1_,.slice B1 (len a.den) d1,.bool (decide (b.num<0)),.slice A2 (len b.num.natAbs) e2_,.slice B2 (len b.den) d2,.bool (decide (r.num<0)),.slice A3 (len r.num.natAbs) e3_,.slice B3 (len r.den) d3] 47))
 obtain ⟨b3,g3,g4⟩:=Ch hw3
 rw [←hw3]
 clear hw3
 have B2_:=hid (bS b2 b3)
 have B3_:=hid (bS b1.out B2_.out)
 have hvk:=hid (hv.keep b3)
 have hv2k:=hid (hv2.keep b3)
 have G2:=hid (Ab' g2.out B2_.out)
 clear hv hv2
 have lP:=Al' g3
 have lX:=Al' G2.out
 obtain ⟨p0,p1,p2,p3,p4,p5,p6,p7,p8⟩:=AY g3
 obtain ⟨x0,x1,x2,x3⟩:w3.cell? ⟨w.heap.size+1,0,none⟩=some (.int .i32 M3)∧w3.cell? ⟨w.heap.size+1,1,none⟩=some (.int .u8 ((D3:Nat):Int))∧w3.cell? ⟨w.heap.size+1,2,none⟩=some (.int .i32 M4)∧w3.cell? ⟨w.heap.size+1,3,none⟩=some (.int .u8 ((D4:Nat):Int)):=⟨cR _ _ 0 _ _ _ G2.out,cR _ _ 1 _ _ _ G2.out,cR _ _ 2 _ _ _ G2.out,cR _ _ 3 _ _ _ G2.out⟩
 replace g3:=hid g3
 replace g4:=hid g4
 go_wp2_with fail
 refine wp_region_held_drew (S:=(fun w'=>w'.cell? ⟨w2.heap.size,0,none⟩=w3.cell? ⟨w2.heap.size,0,none⟩∧w'.cell? ⟨w2.heap.size,1,none⟩=w3.cell? ⟨w2.heap.size,1,none⟩∧w'.cell? ⟨w2.heap.size,2,none⟩=w3.cell? ⟨w2.heap.size,2,none⟩∧w'.cell? ⟨w2.heap.size,3,none⟩=w3.cell? ⟨w2.heap.size,3,none⟩∧w'.cell? ⟨w2.heap.size,4,none⟩=w3.cell? ⟨w2.heap.size,4,none⟩∧w'.cell? ⟨w2.heap.size,5,none⟩=w3.cell? ⟨w2.heap.size,5,none⟩∧w'.cell? ⟨w2.heap.size,6,none⟩=w3.cell? ⟨w2.heap.size,6,none⟩∧w'.cell? ⟨w2.heap.size,7,none⟩=w3.cell? ⟨w2.heap.size,7,none⟩∧w'.cell? ⟨w2.heap.size,8,none⟩=w3.cell? ⟨w2.heap.size,8,none⟩∧w'.cell? ⟨(w.heap.size+1),0,none⟩=w3.cell? ⟨(w.heap.size+1),0,none⟩∧w'.cell? ⟨(w.heap.size+1),1,none⟩=w3.cell? ⟨(w.heap.size+1),1,none⟩∧w'.cell? ⟨(w.heap.size+1),2,none⟩=w3.cell? ⟨(w.heap.size+1),2,none⟩∧w'.cell? ⟨(w.heap.size+1),3,none⟩=w3.cell? ⟨(w.heap.size+1),3,none⟩)) (by kernel_rfl) ?_ (fun hHeld=>?_)
 · (try dsimp only)
   exact ⟨rfl,rfl,rfl,rfl,rfl,rfl,rfl,rfl,rfl,rfl,rfl,rfl,rfl⟩
 obtain ⟨wd,hwd⟩:=eX w3.drew
 have bd:Hid (Below w3.heap.size w3 wd):=hid (by rw [hwd];exact ⟨rfl,rfl,rfl,nL _,fun _ _=>rfl⟩)
 rw [←hwd] at hHeld ⊢
 clear hwd
 have hSof:Hid (∀ z:World,Below wd.heap.size wd z→z.cell? ⟨w2.heap.size,0,none⟩=w3.cell? ⟨w2.heap.size,0,none⟩∧z.cell? ⟨w2.heap.size,1,none⟩=w3.cell? ⟨w2.heap.size,1,none⟩∧z.cell? ⟨w2.heap.size,2,none⟩=w3.cell? ⟨w2.heap.size,2,none⟩∧z.cell? ⟨w2.heap.size,3,none⟩=w3.cell? ⟨w2.heap.size,3,none⟩∧z.cell? ⟨w2.heap.size,4,none⟩=w3.cell? ⟨w2.heap.size,4,none⟩∧z.cell? ⟨w2.heap.size,5,none⟩=w3.cell? ⟨w2.heap.size,5,none⟩∧z.cell? ⟨w2.heap.size,6,none⟩=w3.cell? ⟨w2.heap.size,6,none⟩∧z.cell? ⟨w2.heap.size,7,none⟩=w3.cell? ⟨w2.heap.size,7,none⟩∧z.cell? ⟨w2.heap.size,8,none⟩=w3.cell? ⟨w2.heap.size,8,none⟩∧z.cell? ⟨(w.heap.size+1),0,none⟩=w3.cell? ⟨(w.heap.size+1),0,none⟩∧z.cell? ⟨(w.heap.size+1),1,none⟩=w3.cell? ⟨(w.heap.size+1),1,none⟩∧z.cell? ⟨(w.heap.size+1),2,none⟩=w3.cell? ⟨(w.heap.size+1),2,none⟩∧z.cell? ⟨(w.heap.size+1),3,none⟩=w3.cell? ⟨(w.heap.size+1),3,none⟩):=hid (fun z hz=>by
   have k:=bS bd.out hz
   exact ⟨k.cell (p:=⟨w2.heap.size,0,none⟩) lP,k.cell (p:=⟨w2.heap.size,1,none⟩) lP,k.cell (p:=⟨w2.heap.size,2,none⟩) lP,k.cell (p:=⟨w2.heap.size,3,none⟩) lP,k.cell (p:=⟨w2.heap.size,4,none⟩) lP,k.cell (p:=⟨w2.heap.size,5,none⟩) lP,k.cell (p:=⟨w2.heap.size,6,none⟩) lP,k.cell (p:=⟨w2.heap.size,7,none⟩) lP,k.cell (p:=⟨w2.heap.size,8,none⟩) lP,k.cell (p:=⟨(w.heap.size+1),0,none⟩) lX,k.cell (p:=⟨(w.heap.size+1),1,none⟩) lX,k.cell (p:=⟨(w.heap.size+1),2,none⟩) lX,k.cell (p:=⟨(w.heap.size+1),3,none⟩) lX⟩)
 refine tk (i:=0) (h:=?_)
 try simp only [Act.put,lt,ly,lu]
 refine tk (i:=1) (h:=?_)
 try simp only [Act.put,lt,ly,lu]
 refine tk (i:=3) (h:=?_)
 try simp only [Act.put,lt,ly,lu]
 refine tk (i:=4) (h:=?_)
 try simp only [Act.put,lt,ly,lu]
 refine tk (i:=6) (h:=?_)
 try simp only [Act.put,lt,ly,lu]
 refine tk (i:=7) (h:=?_)
 try simp only [Act.put,lt,ly,lu]
 clear hHeld
 refine AK (base:=2) [jc 2 35 [] (fun V U=>∃ g cap,V=.slice (some ⟨g,0,none⟩) n cap∧AG U g 0 (Aw' l)) [],jc 5 38 [] (fun V U=>Ac' U V m) [],jc 8 41 [] (fun V U=>Ac' U V s) [],jf 9 42 [2,5,8] (.tuple #[.int .u8 ka,.int .i64 ke]) [⟨10,32,fun lv lb=>.tuple #[.int .u8 ka,.int .i64 ke]⟩,⟨11,43,fun lv lb=>.int .u8 ka⟩,⟨12,44,fun lv lb=>.int .i64 ke⟩]] (by kernel_rfl) hSof.out ⟨fun _ _=>⟨rfl,rfl⟩,fun _ _=>⟨rfl,rfl⟩,fun _ _=>⟨rfl,rfl⟩,fun _ _=>⟨rfl,rfl⟩,trivial⟩ ⟨fun _ _ _ _ ⟨g,cap,h1,h2⟩ hb=>⟨g,cap,h1,h2.keep hb⟩,fun _ _ _ _ h hb=>h.keep hb,fun _ _ _ _ h hb=>h.keep hb,fun _ _ _ _ h _=>h,trivial⟩ ⟨trivial,trivial,trivial,⟨?_,?_,?_,trivial⟩,trivial⟩ ⟨?_,?_,?_,?_,trivial⟩ ?_
 · refine AD' (h:=fun lv lb=>⟨by rfl,fun w0=>?_⟩)
   simp only [W,Ae,Af',zfa,zfb,zfc,zfd,zfe,Job.ws,jc,jt,jf,ja,jl,zff,zfg,Ag',Act.put,lt,ly,lu]
   go_simp
 · refine AD' (h:=fun lv lb=>⟨by rfl,fun w0=>?_⟩)
   simp only [W,Ae,Af',zfa,zfb,zfc,zfd,zfe,Job.ws,jc,jt,jf,ja,jl,zff,zfg,Ag',Act.put,lt,ly,lu]
   go_simp
 · refine AD' (h:=fun lv lb=>⟨by rfl,fun w0=>?_⟩)
   simp only [W,Ae,Af',zfa,zfb,zfc,zfd,zfe,Job.ws,jc,jt,jf,ja,jl,zff,zfg,Ag',Act.put,lt,ly,lu]
   go_simp
 · refine Aj' (h:=fun lv lb U HB hd K hK=>?_)
   simp only [W,Ae,Af',zfa,zfb,zfc,zfd,zfe,Job.ws,jc,jt,jf,ja,jl,zff,zfg,Ag',Act.put,lt,ly,lu]
   go_simp
   go_at_call 8
   refine (Hg' (hl.out.keep (bS B3_.out (bS bd.out HB))) hok.out hn.out (by omega)).mono ?_
   rintro eK u9 ⟨V,rfl,kk,b9⟩
   exact hK.out V 0 u9 _ b9 nofun kk (by kernel_rfl)
 · refine Aj' (h:=fun lv lb U HB hd K hK=>?_)
   simp only [W,Ae,Af',zfa,zfb,zfc,zfd,zfe,Job.ws,jc,jt,jf,ja,jl,zff,zfg,Ag',Act.put,lt,ly,lu]
   go_simp
   go_at_call 9
   refine (Bw (w:=U) c3.1 c3.2 h3 em.out).mono ?_
   rintro eK u9 ⟨V,rfl,kk,b9⟩
   exact hK.out V 0 u9 _ b9 nofun kk (by kernel_rfl)
 · refine Aj' (h:=fun lv lb U HB hd K hK=>?_)
   simp only [W,Ae,Af',zfa,zfb,zfc,zfd,zfe,Job.ws,jc,jt,jf,ja,jl,zff,zfg,Ag',Act.put,lt,ly,lu]
   go_simp
   go_at_call 9
   refine (Bw (w:=U) c4.1 c4.2 h4 es.out).mono ?_
   rintro eK u9 ⟨V,rfl,kk,b9⟩
   exact hK.out V 0 u9 _ b9 nofun kk (by kernel_rfl)
 · refine Aj' (h:=fun lv lb U HB hd K hK=>?_)
   have k2:∃ g cap,(lv 2)=.slice (some ⟨g,0,none⟩) n cap∧AG U g 0 (Aw' l):=hd.1 rfl
   have k5:Ac' U (lv 5) m:=hd.2.1 rfl
   have k8:Ac' U (lv 8) s:=hd.2.2.1 rfl
   simp only [W,Ae,Af',zfa,zfb,zfc,zfd,zfe,Job.ws,jc,jt,jf,ja,jl,zff,zfg,Ag',Act.put,lt,ly,lu]
   obtain ⟨g2_,cap2,e2__,q2⟩:=k2
   simp only [e2__]
   go_simp
   go_at_call 7
   refine (hTi.out U _ _ _ g2_ cap2 (bS B3_.out (bS bd.out HB)) (hvk.out.keep (bS bd.out HB)) k5 k8 q2).mono ?_
   rintro eK u9 ⟨rfl,b9⟩
   exact hK.out undef 0 u9 _ b9 nofun trivial (by simp only [W,Ae,Af',zfa,zfb,zfc,zfd,zfe,Job.ws,jc,jt,jf,ja,jl,zff,zfg,Ag',Act.put,lt,ly,lu];simp only [e2__] <;> kernel_rfl)
 intro lv lb u HB hF hD
 have k2:=hF.1.1
 have k5:=hF.2.1.1
 have k8:=hF.2.2.1.1
 clear hF hD
 simp only [W,Ae,Af',zfa,zfb,zfc,zfd,zfe,Job.ws,jc,jt,jf,ja,jl,zff,zfg,Ag',Act.put,lt,ly,lu]
 replace k2:∃ g cap,(lv 2)=.slice (some ⟨g,0,none⟩) n cap∧AG u g 0 (Aw' l):=k2
 replace k5:Ac' u (lv 5) m:=k5
 replace k8:Ac' u (lv 8) s:=k8
 generalize lv 2=v2 at *
 generalize lv 5=v5 at *
 generalize lv 8=v8 at *
 clear lv lb
 have hHeld:=hSof.out _ HB
 refine tk (i:=13) (h:=?_)
 try simp only [Act.put,lt,ly,lu]
 refine tk (i:=14) (h:=?_)
 try simp only [Act.put,lt,ly,lu]
 refine wpAnyH_done (by kernel_rfl) ?_ _
 clear hHeld hSof
 have FB:=hid (bS bd.out HB)
 go_wp2_with fail
 refine hG.out _ _ ?_
 exact hBk.out _ _ _ _ _ _ _ _ _ _ _ _ _ _ _ _ (bS B3_.out FB.out) (Ab' g4.out FB.out) (hv2k.out.keep FB.out) (Ab' G2.out FB.out) (fun _ f=>f _ _ _ _ _ _ _ _ _ _ _ _ _ _ _ _ _ _ _ _ _ _ _ _ _ _ _ _ _ _ _ _ _ _ _ _ _ _ _ _ _ _ _ _ _ _ _ _ _ _ _ _ _ _ _ _ _ _ _ _ _ _ _ _ _ _ _ _ _ _ _ _ _ _ _ _ _ _ _ _ _ _ _ _ _ _ _ _ _ _ _ _ _ _ _ _ _ _ _ _ _ _ _ _ _ _ _ _)
theorem CQ {w:World} {M0 M1 M2 M3 M4:Int} {D0 D1 D2 D3 D4:Nat} {x y a b r m s:Rat} {n c:Nat} {ad:Option Addr} {l:List (Int × Nat)} {ka ke:Int} (c0 : -2147483648≤M0∧M0≤2147483647) (h0:D0≤255) (c1 : -2147483648≤M1∧M1≤2147483647) (h1:D1≤255) (c2 : -2147483648≤M2∧M2≤2147483647) (h2_:D2≤255) (c3 : -2147483648≤M3∧M3≤2147483647) (h3:D3≤255) (c4 : -2147483648≤M4∧M4≤2147483647) (h4:D4≤255) (ex:As M0 D0=x) (ey:As M1 D1=y) (er:As M2 D2=r) (el:leastOf x [y]=a) (eh:greatestOf x [y]=b) (em:As M3 D3=m) (es:As M4 D4=s) (hl:AQ w ad l) (hok:Bg l) (hn:n=l.length) (hsz:200<n∧n≤210) (hTi:∀ (U:World) (v vm vs:Value) (g cap:Nat),Below w.heap.size w U→AA' U v a b r→Ac' U vm m→Ac' U vs s→AG U g 0 (Aw' l)→Calls Tryz.prog 7 #[v,.slice (some ⟨g,0,none⟩) n cap,vm,vs] U (fun e w'=>e=.returned (.tuple #[.int .u8 ka,.int .i64 ke])∧Below U.heap.size U w')) (hBk:∀ (w':World) (px pr:Nat) (A1 B1 A2 B2 A3 B3:Option Addr) (c1 d1 c2 d2 c3 d3:Nat) (A:Array Value),Below w.heap.size w w'→w'.heap[pr]?=some (.cells #[.bool (decide (a.num<0)),.slice A1 (len a.num.natAbs) c1,.slice B1 (len a.den) d1,.bool (decide (b.num<0)),.slice A2 (len b.num.natAbs) c2,.slice B2 (len b.den) d2,.bool (decide (r.num<0)),.slice A3 (len r.num.natAbs) c3,.slice B3 (len r.den) d3] 47 (0,0))→AX w' (.agg #[.bool (decide (a.num<0)),.slice A1 (len a.num.natAbs) c1,.slice B1 (len a.den) d1,.bool (decide (b.num<0)),.slice A2 (len b.num.natAbs) c2,.slice B2 (len b.den) d2,.bool (decide (r.num<0)),.slice A3 (len r.num.natAbs) c3,.slice B3 (len r.den) d3]) a b r→w'.heap[px]?=some (.cells #[.int .i32 M3,.int .u8 ((D3:Nat):Int),.int .i32 M4,.int .u8 ((D4:Nat):Int)] 30 (0,0))→SlT ad n c px pr ka ke A→(codeAt 4 Tryz.f3).wp Tryz.prog (bodyPost Tryz.prog Tryz.f3 (AI' w true)) { tmps:=A,defers:=[] } w')  :
   Calls Tryz.prog 3 #[.agg #[.int .i32 M0,.int .u8 ((D0:Nat):Int),.int .i32 M1,.int .u8 ((D1:Nat):Int),.int .i32 M2,.int .u8 ((D2:Nat):Int)],.slice ad n c,.agg #[.int .i32 M3,.int .u8 ((D3:Nat):Int),.int .i32 M4,.int .u8 ((D4:Nat):Int)]] w (AI' w true):=by
 have e1:decide (((n:Nat):Int)>40)=true:=dT_ (by omega)
 have e2:decide (((n:Nat):Int)≤200)=false:=dF_ (by omega)
 have e3:decide (((n:Nat):Int)>210)=false:=dF_ (by omega)
 replace ex:=hid ex
 replace ey:=hid ey
 replace er:=hid er
 replace el:=hid el
 replace eh:=hid eh
 replace em:=hid em
 replace es:=hid es
 replace hl:=hid hl
 replace hok:=hid hok
 replace hn:=hid hn
 replace hTi:=hid hTi
 replace hBk:=hid hBk
 obtain ⟨w1,hw1⟩:=eX ((w.alloc (.cells #[.int .i32 M0,.int .u8 ((D0:Nat):Int),.int .i32 M1,.int .u8 ((D1:Nat):Int),.int .i32 M2,.int .u8 ((D2:Nat):Int)] 27)).alloc (.cells #[.int .i32 M3,.int .u8 ((D3:Nat):Int),.int .i32 M4,.int .u8 ((D4:Nat):Int)] 30))
 obtain ⟨b1,g1,g2⟩:=Ch hw1
 replace b1:=hid b1
 replace g1:=hid g1
 replace g2:=hid g2
 go_enter Tryz.func3,Tryz.ntmps3
 go_upto_region 1 with fail
 rw [←hw1]
 clear hw1
 obtain ⟨z0,z1,z2,z3,z4,z5⟩:=Aj g1.out
 have HX:=hid (Dk (w:=w1) c0.1 c0.2 h0 c1.1 c1.2 h1 ex.out ey.out c2.1 c2.2 h2_ er.out el.out eh.out)
 go_wp2_with fail
 refine (HX.out).mono ?_
 rintro e w2 ⟨v,v2,rfl,hv,hv2,b2⟩
 clear HX z0 z1 z2 z3 z4 z5
 obtain ⟨C1,j1,C2,j2,C3,j3,C4,j4,C5,j5,C6,j6,rfl,-,-⟩:=id hv.opened
 obtain ⟨A1,e1_,B1,d1,A2,e2_,B2,d2,A3,e3_,B3,d3,rfl,-,-⟩:=id hv2
 go_upto_region 4 with fail
 rename_i G hG
 replace hG:=hid hG
 obtain ⟨w3,hw3⟩:=eX ((w2.alloc (.cells #[.bool (decide (a.num<0)),.slice C1 (Vx.len a.num.natAbs) j1,.slice C2 (Vx.len (below a.den)) j2,.bool (decide (b.num<0)),.slice C3 (Vx.len b.num.natAbs) j3,.slice C4 (Vx.len (below b.den)) j4,.bool (decide (r.num<0)),.slice C5 (Vx.len r.num.natAbs) j5,.slice C6 (Vx.len (below r.den)) j6] 39)).alloc (.cells #[.bool (decide (a.num<0)),.slice A1 (len a.num.natAbs) e1_,.slice B1 (len a.den) d1,.bool (decide (b.num<0)),.slice A2 (len b.num.natAbs) e2_,.slice B2 (len b.den) d2,.bool (decide (r.num<0)),.slice A3 (len r.num.natAbs) e3_,.slice B3 (len r.den) d3] 47))
 obtain ⟨b3,g3,g4⟩:=Ch hw3
 rw [←hw3]
 clear hw3
 have B2_:=hid (bS b2 b3)
 have B3_:=hid (bS b1.out B2_.out)
 have hvk:=hid (hv.keep b3)
 have hv2k:=hid (hv2.keep b3)
 have G2:=hid (Ab' g2.out B2_.out)
 clear hv hv2
 have lP:=Al' g3
 have lX:=Al' G2.out
 obtain ⟨p0,p1,p2,p3,p4,p5,p6,p7,p8⟩:=AY g3
 obtain ⟨x0,x1,x2,x3⟩:w3.cell? ⟨w.heap.size+1,0,none⟩=some (.int .i32 M3)∧w3.cell? ⟨w.heap.size+1,1,none⟩=some (.int .u8 ((D3:Nat):Int))∧w3.cell? ⟨w.heap.size+1,2,none⟩=some (.int .i32 M4)∧w3.cell? ⟨w.heap.size+1,3,none⟩=some (.int .u8 ((D4:Nat):Int)):=⟨cR _ _ 0 _ _ _ G2.out,cR _ _ 1 _ _ _ G2.out,cR _ _ 2 _ _ _ G2.out,cR _ _ 3 _ _ _ G2.out⟩
 replace g3:=hid g3
 replace g4:=hid g4
 go_wp2_with fail
 refine wp_region_held_drew (S:=(fun w'=>w'.cell? ⟨w2.heap.size,0,none⟩=w3.cell? ⟨w2.heap.size,0,none⟩∧w'.cell? ⟨w2.heap.size,1,none⟩=w3.cell? ⟨w2.heap.size,1,none⟩∧w'.cell? ⟨w2.heap.size,2,none⟩=w3.cell? ⟨w2.heap.size,2,none⟩∧w'.cell? ⟨w2.heap.size,3,none⟩=w3.cell? ⟨w2.heap.size,3,none⟩∧w'.cell? ⟨w2.heap.size,4,none⟩=w3.cell? ⟨w2.heap.size,4,none⟩∧w'.cell? ⟨w2.heap.size,5,none⟩=w3.cell? ⟨w2.heap.size,5,none⟩∧w'.cell? ⟨w2.heap.size,6,none⟩=w3.cell? ⟨w2.heap.size,6,none⟩∧w'.cell? ⟨w2.heap.size,7,none⟩=w3.cell? ⟨w2.heap.size,7,none⟩∧w'.cell? ⟨w2.heap.size,8,none⟩=w3.cell? ⟨w2.heap.size,8,none⟩∧w'.cell? ⟨(w.heap.size+1),0,none⟩=w3.cell? ⟨(w.heap.size+1),0,none⟩∧w'.cell? ⟨(w.heap.size+1),1,none⟩=w3.cell? ⟨(w.heap.size+1),1,none⟩∧w'.cell? ⟨(w.heap.size+1),2,none⟩=w3.cell? ⟨(w.heap.size+1),2,none⟩∧w'.cell? ⟨(w.heap.size+1),3,none⟩=w3.cell? ⟨(w.heap.size+1),3,none⟩)) (by kernel_rfl) ?_ (fun hHeld=>?_)
 · (try dsimp only)
   exact ⟨rfl,rfl,rfl,rfl,rfl,rfl,rfl,rfl,rfl,rfl,rfl,rfl,rfl⟩
 obtain ⟨wd,hwd⟩:=eX w3.drew
 have bd:Hid (Below w3.heap.size w3 wd):=hid (by rw [hwd];exact ⟨rfl,rfl,rfl,nL _,fun _ _=>rfl⟩)
 rw [←hwd] at hHeld ⊢
 clear hwd
 have hSof:Hid (∀ z:World,Below wd.heap.size wd z→z.cell? ⟨w2.heap.size,0,none⟩=w3.cell? ⟨w2.heap.size,0,none⟩∧z.cell? ⟨w2.heap.size,1,none⟩=w3.cell? ⟨w2.heap.size,1,none⟩∧z.cell? ⟨w2.heap.size,2,none⟩=w3.cell? ⟨w2.heap.size,2,none⟩∧z.cell? ⟨w2.heap.size,3,none⟩=w3.cell? ⟨w2.heap.size,3,none⟩∧z.cell? ⟨w2.heap.size,4,none⟩=w3.cell? ⟨w2.heap.size,4,none⟩∧z.cell? ⟨w2.heap.size,5,none⟩=w3.cell? ⟨w2.heap.size,5,none⟩∧z.cell? ⟨w2.heap.size,6,none⟩=w3.cell? ⟨w2.heap.size,6,none⟩∧z.cell? ⟨w2.heap.size,7,none⟩=w3.cell? ⟨w2.heap.size,7,none⟩∧z.cell? ⟨w2.heap.size,8,none⟩=w3.cell? ⟨w2.heap.size,8,none⟩∧z.cell? ⟨(w.heap.size+1),0,none⟩=w3.cell? ⟨(w.heap.size+1),0,none⟩∧z.cell? ⟨(w.heap.size+1),1,none⟩=w3.cell? ⟨(w.heap.size+1),1,none⟩∧z.cell? ⟨(w.heap.size+1),2,none⟩=w3.cell? ⟨(w.heap.size+1),2,none⟩∧z.cell? ⟨(w.heap.size+1),3,none⟩=w3.cell? ⟨(w.heap.size+1),3,none⟩):=hid (fun z hz=>by
   have k:=bS bd.out hz
   exact ⟨k.cell (p:=⟨w2.heap.size,0,none⟩) lP,k.cell (p:=⟨w2.heap.size,1,none⟩) lP,k.cell (p:=⟨w2.heap.size,2,none⟩) lP,k.cell (p:=⟨w2.heap.size,3,none⟩) lP,k.cell (p:=⟨w2.heap.size,4,none⟩) lP,k.cell (p:=⟨w2.heap.size,5,none⟩) lP,k.cell (p:=⟨w2.heap.size,6,none⟩) lP,k.cell (p:=⟨w2.heap.size,7,none⟩) lP,k.cell (p:=⟨w2.heap.size,8,none⟩) lP,k.cell (p:=⟨(w.heap.size+1),0,none⟩) lX,k.cell (p:=⟨(w.heap.size+1),1,none⟩) lX,k.cell (p:=⟨(w.heap.size+1),2,none⟩) lX,k.cell (p:=⟨(w.heap.size+1),3,none⟩) lX⟩)
 refine tk (i:=0) (h:=?_)
 try simp only [Act.put,lt,ly,lu]
 refine tk (i:=1) (h:=?_)
 try simp only [Act.put,lt,ly,lu]
 refine tk (i:=3) (h:=?_)
 try simp only [Act.put,lt,ly,lu]
 refine tk (i:=4) (h:=?_)
 try simp only [Act.put,lt,ly,lu]
 refine tk (i:=6) (h:=?_)
 try simp only [Act.put,lt,ly,lu]
 refine tk (i:=7) (h:=?_)
 try simp only [Act.put,lt,ly,lu]
 clear hHeld
 refine AK (base:=2) [jc 2 35 [] (fun V U=>∃ g cap,V=.slice (some ⟨g,0,none⟩) n cap∧AG U g 0 (Aw' l)) [],jc 5 38 [] (fun V U=>Ac' U V m) [],jc 8 41 [] (fun V U=>Ac' U V s) [],jf 9 42 [2,5,8] (.tuple #[.int .u8 ka,.int .i64 ke]) [⟨10,32,fun lv lb=>.tuple #[.int .u8 ka,.int .i64 ke]⟩,⟨11,43,fun lv lb=>.int .u8 ka⟩,⟨12,44,fun lv lb=>.int .i64 ke⟩]] (by kernel_rfl) hSof.out ⟨fun _ _=>⟨rfl,rfl⟩,fun _ _=>⟨rfl,rfl⟩,fun _ _=>⟨rfl,rfl⟩,fun _ _=>⟨rfl,rfl⟩,trivial⟩ ⟨fun _ _ _ _ ⟨g,cap,h1,h2⟩ hb=>⟨g,cap,h1,h2.keep hb⟩,fun _ _ _ _ h hb=>h.keep hb,fun _ _ _ _ h hb=>h.keep hb,fun _ _ _ _ h _=>h,trivial⟩ ⟨trivial,trivial,trivial,⟨?_,?_,?_,trivial⟩,trivial⟩ ⟨?_,?_,?_,?_,trivial⟩ ?_
 · refine AD' (h:=fun lv lb=>⟨by rfl,fun w0=>?_⟩)
   simp only [W,Ae,Af',zfa,zfb,zfc,zfd,zfe,Job.ws,jc,jt,jf,ja,jl,zff,zfg,Ag',Act.put,lt,ly,lu]
   go_simp
 · refine AD' (h:=fun lv lb=>⟨by rfl,fun w0=>?_⟩)
   simp only [W,Ae,Af',zfa,zfb,zfc,zfd,zfe,Job.ws,jc,jt,jf,ja,jl,zff,zfg,Ag',Act.put,lt,ly,lu]
   go_simp
 · refine AD' (h:=fun lv lb=>⟨by rfl,fun w0=>?_⟩)
   simp only [W,Ae,Af',zfa,zfb,zfc,zfd,zfe,Job.ws,jc,jt,jf,ja,jl,zff,zfg,Ag',Act.put,lt,ly,lu]
   go_simp
 · refine Aj' (h:=fun lv lb U HB hd K hK=>?_)
   simp only [W,Ae,Af',zfa,zfb,zfc,zfd,zfe,Job.ws,jc,jt,jf,ja,jl,zff,zfg,Ag',Act.put,lt,ly,lu]
   go_simp
   go_at_call 8
   refine (Hg' (hl.out.keep (bS B3_.out (bS bd.out HB))) hok.out hn.out (by omega)).mono ?_
   rintro eK u9 ⟨V,rfl,kk,b9⟩
   exact hK.out V 0 u9 _ b9 nofun kk (by kernel_rfl)
 · refine Aj' (h:=fun lv lb U HB hd K hK=>?_)
   simp only [W,Ae,Af',zfa,zfb,zfc,zfd,zfe,Job.ws,jc,jt,jf,ja,jl,zff,zfg,Ag',Act.put,lt,ly,lu]
   go_simp
   go_at_call 9
   refine (Bw (w:=U) c3.1 c3.2 h3 em.out).mono ?_
   rintro eK u9 ⟨V,rfl,kk,b9⟩
   exact hK.out V 0 u9 _ b9 nofun kk (by kernel_rfl)
 · refine Aj' (h:=fun lv lb U HB hd K hK=>?_)
   simp only [W,Ae,Af',zfa,zfb,zfc,zfd,zfe,Job.ws,jc,jt,jf,ja,jl,zff,zfg,Ag',Act.put,lt,ly,lu]
   go_simp
   go_at_call 9
   refine (Bw (w:=U) c4.1 c4.2 h4 es.out).mono ?_
   rintro eK u9 ⟨V,rfl,kk,b9⟩
   exact hK.out V 0 u9 _ b9 nofun kk (by kernel_rfl)
 · refine Aj' (h:=fun lv lb U HB hd K hK=>?_)
   have k2:∃ g cap,(lv 2)=.slice (some ⟨g,0,none⟩) n cap∧AG U g 0 (Aw' l):=hd.1 rfl
   have k5:Ac' U (lv 5) m:=hd.2.1 rfl
   have k8:Ac' U (lv 8) s:=hd.2.2.1 rfl
   simp only [W,Ae,Af',zfa,zfb,zfc,zfd,zfe,Job.ws,jc,jt,jf,ja,jl,zff,zfg,Ag',Act.put,lt,ly,lu]
   obtain ⟨g2_,cap2,e2__,q2⟩:=k2
   simp only [e2__]
   go_simp
   go_at_call 7
   refine (hTi.out U _ _ _ g2_ cap2 (bS B3_.out (bS bd.out HB)) (hvk.out.keep (bS bd.out HB)) k5 k8 q2).mono ?_
   rintro eK u9 ⟨rfl,b9⟩
   exact hK.out undef 0 u9 _ b9 nofun trivial (by simp only [W,Ae,Af',zfa,zfb,zfc,zfd,zfe,Job.ws,jc,jt,jf,ja,jl,zff,zfg,Ag',Act.put,lt,ly,lu];simp only [e2__] <;> kernel_rfl)
 intro lv lb u HB hF hD
 have k2:=hF.1.1
 have k5:=hF.2.1.1
 have k8:=hF.2.2.1.1
 clear hF hD
 simp only [W,Ae,Af',zfa,zfb,zfc,zfd,zfe,Job.ws,jc,jt,jf,ja,jl,zff,zfg,Ag',Act.put,lt,ly,lu]
 replace k2:∃ g cap,(lv 2)=.slice (some ⟨g,0,none⟩) n cap∧AG u g 0 (Aw' l):=k2
 replace k5:Ac' u (lv 5) m:=k5
 replace k8:Ac' u (lv 8) s:=k8
 generalize lv 2=v2 at *
 generalize lv 5=v5 at *
 generalize lv 8=v8 at *
 clear lv lb
 have hHeld:=hSof.out _ HB
 refine tk (i:=13) (h:=?_)
 try simp only [Act.put,lt,ly,lu]
 refine tk (i:=14) (h:=?_)
 try simp only [Act.put,lt,ly,lu]
 refine wpAnyH_done (by kernel_rfl) ?_ _
 clear hHeld hSof
 have FB:=hid (bS bd.out HB)
 go_wp2_with fail
 refine hG.out _ _ ?_
 exact hBk.out _ _ _ _ _ _ _ _ _ _ _ _ _ _ _ _ (bS B3_.out FB.out) (Ab' g4.out FB.out) (hv2k.out.keep FB.out) (Ab' G2.out FB.out) (fun _ f=>f _ _ _ _ _ _ _ _ _ _ _ _ _ _ _ _ _ _ _ _ _ _ _ _ _ _ _ _ _ _ _ _ _ _ _ _ _ _ _ _ _ _ _ _ _ _ _ _ _ _ _ _ _ _ _ _ _ _ _ _ _ _ _ _ _ _ _ _ _ _ _ _ _ _ _ _ _ _ _ _ _ _ _ _ _ _ _ _ _ _ _ _ _ _ _ _ _ _ _ _ _ _ _ _ _ _ _ _)
theorem D3' {l:List (Int × Nat)} (hok:Bg l):∀ q∈Aw' l,Aa' q≤20:=by
 intro q hq
 obtain ⟨x,hx,rfl⟩:=List.mem_map.1 hq
 exact AN' (hok x hx).1.1 (hok x hx).1.2 rfl
theorem Fp' {w:World} {M0 M1 M2 M3 M4:Int} {D0 D1 D2 D3 D4:Nat} {x y a b r m s:Rat} {n c:Nat} {ad:Option Addr} {l:List (Int × Nat)} (c0 : -2147483648≤M0∧M0≤2147483647) (h0:D0≤255) (c1 : -2147483648≤M1∧M1≤2147483647) (h1:D1≤255) (c2 : -2147483648≤M2∧M2≤2147483647) (h2_:D2≤255) (c3 : -2147483648≤M3∧M3≤2147483647) (h3:D3≤255) (c4 : -2147483648≤M4∧M4≤2147483647) (h4:D4≤255) (ex:As M0 D0=x) (ey:As M1 D1=y) (er:As M2 D2=r) (el:leastOf x [y]=a) (eh:greatestOf x [y]=b) (em:As M3 D3=m) (es:As M4 D4=s) (hl:AQ w ad l) (hok:Bg l) (hn:n=l.length) (hT:TabAt 0 Lib.deBruijn64tab w):Calls Tryz.prog 3 #[.agg #[.int .i32 M0,.int .u8 ((D0:Nat):Int),.int .i32 M1,.int .u8 ((D1:Nat):Int),.int .i32 M2,.int .u8 ((D2:Nat):Int)],.slice ad n c,.agg #[.int .i32 M3,.int .u8 ((D3:Nat):Int),.int .i32 M4,.int .u8 ((D4:Nat):Int)]] w (AI' w true):=by
 have sx:=AN' c0.1 c0.2 ex
 have sy:=AN' c1.1 c1.2 ey
 have sr:Aa' r≤100:=nT (AN' c2.1 c2.2 er) (by omega)
 have sm:=AN' c3.1 c3.2 em
 have ss:=AN' c4.1 c4.2 es
 have hall:∀ q∈x::[y],Aa' q≤100:=by
   intro q hq
   simp only [List.mem_cons,List.not_mem_nil,or_false] at hq
   rcases hq with rfl | rfl <;> omega
 have sa:Aa' a≤100:=hall a (by have:=(DE' x [y]).1;rw [el] at this;exact this)
 have sb:Aa' b≤100:=hall b (by have:=(CK x [y]).1;rw [eh] at this;exact this)
 have lq:(Aw' l).length=n:=by rw [hn];exact List.length_map _
 by_cases hA:40<n∧n≤200
 · exact D0' hA hT
 by_cases hB:210<n
 · exact D1' hB hT
 by_cases hC:n≤40
 · by_cases hg:Ar' a b r
   · by_cases h2:n<2
     · refine Bg' (ka:=0) (ke:=7) c0 h0 c1 h1 c2 h2_ c3 h3 c4 h4 ex ey er el eh em es hl hok hn hC ?_ ?_
       · intro U v vm vs g cap _ hv hm hs _
         exact Ci hv hm hs (by unfold CC;rw [if_pos hg,if_neg (by omega),if_pos h2]) (by decide) (nT sa (by omega)) (nT sb (by omega))
       · intro w1 px pr A1 B1 A2 B2 A3 B3 c1_ d1_ c2_ d2_ c3_ d3_ A HB hP hp hX hA
         refine hA (fun A=>(codeAt 4 Tryz.f3).wp Tryz.prog (bodyPost Tryz.prog Tryz.f3 (AI' w true)) { tmps:=A,defers:=[] } w1) ?_
         intro y0 y2 y3 y4 y6 y7 y11 y12 y13 y14 y15 y16 y17 y18 y19 y20 y21 y22 y23 y24 y25 y26 y27 y28 y29 y30 y31 y32 y33 y34 y35 y36 y37 y38 y39 y40 y41 y42 y43 y44 y45 y46 y47 y48 y49 y50 y51 y52 y53 y54 y55 y56 y57 y58 y59 y60 y61 y62 y63 y64 y65 y66 y67 y68 y69 y70 y71 y72 y73 y74 y75 y76 y77 y78 y79 y80 y81 y82 y83 y84 y85 y86 y87 y88 y89 y90 y91 y92 y93 y94 y95 y96 y97 y98 y99 y100 y101 y102 y103 y104 y105 y106 y107 y108 y109 y110 y111 y112
         exact If hP hp hX c3 c4 h3 h4 em es (hl.keep HB) hok hn sa sb sr (Au' hT HB) hg h2 (fun w' h=>⟨rfl,Ae' HB h⟩)
     by_cases hs0:s<0
     · refine Bg' (ka:=0) (ke:=3) c0 h0 c1 h1 c2 h2_ c3 h3 c4 h4 ex ey er el eh em es hl hok hn hC ?_ ?_
       · intro U v vm vs g cap _ hv hm hs _
         exact He hv hm hs (by omega) (by omega) hg hs0 (nT sa (by omega)) (nT sb (by omega)) (nT ss (by omega))
       · intro w1 px pr A1 B1 A2 B2 A3 B3 c1_ d1_ c2_ d2_ c3_ d3_ A HB hP hp hX hA
         refine hA (fun A=>(codeAt 4 Tryz.f3).wp Tryz.prog (bodyPost Tryz.prog Tryz.f3 (AI' w true)) { tmps:=A,defers:=[] } w1) ?_
         intro y0 y2 y3 y4 y6 y7 y11 y12 y13 y14 y15 y16 y17 y18 y19 y20 y21 y22 y23 y24 y25 y26 y27 y28 y29 y30 y31 y32 y33 y34 y35 y36 y37 y38 y39 y40 y41 y42 y43 y44 y45 y46 y47 y48 y49 y50 y51 y52 y53 y54 y55 y56 y57 y58 y59 y60 y61 y62 y63 y64 y65 y66 y67 y68 y69 y70 y71 y72 y73 y74 y75 y76 y77 y78 y79 y80 y81 y82 y83 y84 y85 y86 y87 y88 y89 y90 y91 y92 y93 y94 y95 y96 y97 y98 y99 y100 y101 y102 y103 y104 y105 y106 y107 y108 y109 y110 y111 y112
         exact Hj hP hp hX c3 c4 h3 h4 em es (hl.keep HB) hok hn sa sb sr (Au' hT HB) hg ⟨by omega,by omega⟩ hs0 (fun w' h=>⟨rfl,Ae' HB h⟩)
     replace hs0:=Rat.not_lt.1 hs0
     by_cases hs1:1≤s
     · refine Bg' (ka:=0) (ke:=3) c0 h0 c1 h1 c2 h2_ c3 h3 c4 h4 ex ey er el eh em es hl hok hn hC ?_ ?_
       · intro U v vm vs g cap _ hv hm hs _
         exact Gt' hv hm hs (by omega) (by omega) hg hs0 hs1 (nT sa (by omega)) (nT sb (by omega)) (nT ss (by omega))
       · intro w1 px pr A1 B1 A2 B2 A3 B3 c1_ d1_ c2_ d2_ c3_ d3_ A HB hP hp hX hA
         refine hA (fun A=>(codeAt 4 Tryz.f3).wp Tryz.prog (bodyPost Tryz.prog Tryz.f3 (AI' w true)) { tmps:=A,defers:=[] } w1) ?_
         intro y0 y2 y3 y4 y6 y7 y11 y12 y13 y14 y15 y16 y17 y18 y19 y20 y21 y22 y23 y24 y25 y26 y27 y28 y29 y30 y31 y32 y33 y34 y35 y36 y37 y38 y39 y40 y41 y42 y43 y44 y45 y46 y47 y48 y49 y50 y51 y52 y53 y54 y55 y56 y57 y58 y59 y60 y61 y62 y63 y64 y65 y66 y67 y68 y69 y70 y71 y72 y73 y74 y75 y76 y77 y78 y79 y80 y81 y82 y83 y84 y85 y86 y87 y88 y89 y90 y91 y92 y93 y94 y95 y96 y97 y98 y99 y100 y101 y102 y103 y104 y105 y106 y107 y108 y109 y110 y111 y112
         exact Hj' hP hp hX c3 c4 h3 h4 em es (hl.keep HB) hok hn sa sb sr (Au' hT HB) hg ⟨by omega,by omega⟩ ⟨hs0,hs1⟩ (fun w' h=>⟨rfl,Ae' HB h⟩)
     replace hs1:=Rat.not_le.1 hs1
     obtain ⟨nn,hnn⟩:∃ k,n=k+1:=⟨n - 1,by omega⟩
     obtain ⟨z,hz⟩:∃ z,(Aw' l)[nn]?=some z:=⟨(Aw' l)[nn]'(by omega),by simp⟩
     obtain ⟨x9,hx9⟩:∃ z,(Aw' l)[0]?=some z:=⟨(Aw' l)[0]'(by omega),by simp⟩
     have sz:=D3' hok z (List.mem_of_getElem? hz)
     have sx9:=D3' hok x9 (List.mem_of_getElem? hx9)
     by_cases hn0:x9 - m - r≤0∧0≤x9 - m+r
     · refine Bg' (ka:=0) (ke:=42) c0 h0 c1 h1 c2 h2_ c3 h3 c4 h4 ex ey er el eh em es hl hok hn hC ?_ ?_
       · intro U v vm vs g cap _ hv hm hs hN
         exact FH hv hm hs hN hz hx9 hnn (by omega) (by omega) hg hs0 hs1 (nT sz (by omega)) (nT sx9 (by omega)) (nT sm (by omega)) (nT ss (by omega)) (nT sr (by omega)) ⟨nT sa (by omega),nT sb (by omega)⟩ hn0
       · intro w1 px pr A1 B1 A2 B2 A3 B3 c1_ d1_ c2_ d2_ c3_ d3_ A HB hP hp hX hA
         refine hA (fun A=>(codeAt 4 Tryz.f3).wp Tryz.prog (bodyPost Tryz.prog Tryz.f3 (AI' w true)) { tmps:=A,defers:=[] } w1) ?_
         intro y0 y2 y3 y4 y6 y7 y11 y12 y13 y14 y15 y16 y17 y18 y19 y20 y21 y22 y23 y24 y25 y26 y27 y28 y29 y30 y31 y32 y33 y34 y35 y36 y37 y38 y39 y40 y41 y42 y43 y44 y45 y46 y47 y48 y49 y50 y51 y52 y53 y54 y55 y56 y57 y58 y59 y60 y61 y62 y63 y64 y65 y66 y67 y68 y69 y70 y71 y72 y73 y74 y75 y76 y77 y78 y79 y80 y81 y82 y83 y84 y85 y86 y87 y88 y89 y90 y91 y92 y93 y94 y95 y96 y97 y98 y99 y100 y101 y102 y103 y104 y105 y106 y107 y108 y109 y110 y111 y112
         exact EJ hP hp hX c3 c4 h3 h4 em es (hl.keep HB) hok hn sa sb sr (Au' hT HB) hs0 hs1 ⟨by omega,by omega⟩ hg hz hx9 hnn (by omega) sx9 sz (Or.inl ⟨rfl,rfl,rfl⟩) rfl rfl (if_pos hn0) (fun w' h=>⟨rfl,Ae' HB h⟩)
     · obtain ⟨lo,elo⟩:=eY (leastOf ((z - m - r) / (x9 - m - r)) [(z - m - r) / (x9 - m+r),(z - m+r) / (x9 - m - r),(z - m+r) / (x9 - m+r)])
       obtain ⟨hi,ehi⟩:=eY (greatestOf ((z - m - r) / (x9 - m - r)) [(z - m - r) / (x9 - m+r),(z - m+r) / (x9 - m - r),(z - m+r) / (x9 - m+r)])
       obtain ⟨k,ek⟩:=eY ((if (1 - s)^nn≤lo then 1 else if hi<(1 - s)^nn then 2 else 3):Int)
       have hk3:1≤k∧k≤3:=by rw [←ek];split <;> (try split) <;> decide
       refine Bg' (ka:=k) (ke:=0) c0 h0 c1 h1 c2 h2_ c3 h3 c4 h4 ex ey er el eh em es hl hok hn hC ?_ ?_
       · intro U v vm vs g cap _ hv hm hs hN
         exact DZ hv hm hs hN hz hx9 hnn (by omega) (by omega) hg hs0 hs1 (nT sz (by omega)) (nT sx9 (by omega)) (nT sm (by omega)) (nT ss (by omega)) (nT sr (by omega)) ⟨nT sa (by omega),nT sb (by omega)⟩ hn0 elo ehi ek
       · intro w1 px pr A1 B1 A2 B2 A3 B3 c1_ d1_ c2_ d2_ c3_ d3_ A HB hP hp hX hA
         refine hA (fun A=>(codeAt 4 Tryz.f3).wp Tryz.prog (bodyPost Tryz.prog Tryz.f3 (AI' w true)) { tmps:=A,defers:=[] } w1) ?_
         intro y0 y2 y3 y4 y6 y7 y11 y12 y13 y14 y15 y16 y17 y18 y19 y20 y21 y22 y23 y24 y25 y26 y27 y28 y29 y30 y31 y32 y33 y34 y35 y36 y37 y38 y39 y40 y41 y42 y43 y44 y45 y46 y47 y48 y49 y50 y51 y52 y53 y54 y55 y56 y57 y58 y59 y60 y61 y62 y63 y64 y65 y66 y67 y68 y69 y70 y71 y72 y73 y74 y75 y76 y77 y78 y79 y80 y81 y82 y83 y84 y85 y86 y87 y88 y89 y90 y91 y92 y93 y94 y95 y96 y97 y98 y99 y100 y101 y102 y103 y104 y105 y106 y107 y108 y109 y110 y111 y112
         exact EJ hP hp hX c3 c4 h3 h4 em es (hl.keep HB) hok hn sa sb sr (Au' hT HB) hs0 hs1 ⟨by omega,by omega⟩ hg hz hx9 hnn (by omega) sx9 sz (Or.inr ⟨hk3.1,hk3.2,rfl,rfl⟩) elo ehi (by rw [if_neg hn0];exact ek) (fun w' h=>⟨rfl,Ae' HB h⟩)
   · refine Bg' (ka:=0) (ke:=2) c0 h0 c1 h1 c2 h2_ c3 h3 c4 h4 ex ey er el eh em es hl hok hn hC ?_ ?_
     · intro U v vm vs g cap _ hv hm hs _
       exact Ci hv hm hs (by unfold CC;rw [if_neg hg]) (by decide) (nT sa (by omega)) (nT sb (by omega))
     · intro w1 px pr A1 B1 A2 B2 A3 B3 c1_ d1_ c2_ d2_ c3_ d3_ A HB hP hp hX hA
       refine hA (fun A=>(codeAt 4 Tryz.f3).wp Tryz.prog (bodyPost Tryz.prog Tryz.f3 (AI' w true)) { tmps:=A,defers:=[] } w1) ?_
       intro y0 y2 y3 y4 y6 y7 y11 y12 y13 y14 y15 y16 y17 y18 y19 y20 y21 y22 y23 y24 y25 y26 y27 y28 y29 y30 y31 y32 y33 y34 y35 y36 y37 y38 y39 y40 y41 y42 y43 y44 y45 y46 y47 y48 y49 y50 y51 y52 y53 y54 y55 y56 y57 y58 y59 y60 y61 y62 y63 y64 y65 y66 y67 y68 y69 y70 y71 y72 y73 y74 y75 y76 y77 y78 y79 y80 y81 y82 y83 y84 y85 y86 y87 y88 y89 y90 y91 y92 y93 y94 y95 y96 y97 y98 y99 y100 y101 y102 y103 y104 y105 y106 y107 y108 y109 y110 y111 y112
       exact Fp hP hp hX c3 c4 h3 h4 em es (hl.keep HB) hok hn sa sb sr (Au' hT HB) hg (fun w' h=>⟨rfl,Ae' HB h⟩)
 · by_cases hg:Ar' a b r
   · refine CQ (ka:=0) (ke:=5) c0 h0 c1 h1 c2 h2_ c3 h3 c4 h4 ex ey er el eh em es hl hok hn ⟨by omega,by omega⟩ ?_ ?_
     · intro U v vm vs g cap _ hv hm hs _
       exact Ci hv hm hs (by unfold CC;rw [if_pos hg,if_pos (by omega)]) (by decide) (nT sa (by omega)) (nT sb (by omega))
     · intro w1 px pr A1 B1 A2 B2 A3 B3 c1_ d1_ c2_ d2_ c3_ d3_ A HB hP hp hX hA
       refine hA (fun A=>(codeAt 4 Tryz.f3).wp Tryz.prog (bodyPost Tryz.prog Tryz.f3 (AI' w true)) { tmps:=A,defers:=[] } w1) ?_
       intro y0 y2 y3 y4 y6 y7 y11 y12 y13 y14 y15 y16 y17 y18 y19 y20 y21 y22 y23 y24 y25 y26 y27 y28 y29 y30 y31 y32 y33 y34 y35 y36 y37 y38 y39 y40 y41 y42 y43 y44 y45 y46 y47 y48 y49 y50 y51 y52 y53 y54 y55 y56 y57 y58 y59 y60 y61 y62 y63 y64 y65 y66 y67 y68 y69 y70 y71 y72 y73 y74 y75 y76 y77 y78 y79 y80 y81 y82 y83 y84 y85 y86 y87 y88 y89 y90 y91 y92 y93 y94 y95 y96 y97 y98 y99 y100 y101 y102 y103 y104 y105 y106 y107 y108 y109 y110 y111 y112
       exact Ie' hP hp hX c3 c4 h3 h4 em es (hl.keep HB) hok hn sa sb sr (Au' hT HB) hg (by omega) (fun w' h=>⟨rfl,Ae' HB h⟩)
   · refine CQ (ka:=0) (ke:=2) c0 h0 c1 h1 c2 h2_ c3 h3 c4 h4 ex ey er el eh em es hl hok hn ⟨by omega,by omega⟩ ?_ ?_
     · intro U v vm vs g cap _ hv hm hs _
       exact Ci hv hm hs (by unfold CC;rw [if_neg hg]) (by decide) (nT sa (by omega)) (nT sb (by omega))
     · intro w1 px pr A1 B1 A2 B2 A3 B3 c1_ d1_ c2_ d2_ c3_ d3_ A HB hP hp hX hA
       refine hA (fun A=>(codeAt 4 Tryz.f3).wp Tryz.prog (bodyPost Tryz.prog Tryz.f3 (AI' w true)) { tmps:=A,defers:=[] } w1) ?_
       intro y0 y2 y3 y4 y6 y7 y11 y12 y13 y14 y15 y16 y17 y18 y19 y20 y21 y22 y23 y24 y25 y26 y27 y28 y29 y30 y31 y32 y33 y34 y35 y36 y37 y38 y39 y40 y41 y42 y43 y44 y45 y46 y47 y48 y49 y50 y51 y52 y53 y54 y55 y56 y57 y58 y59 y60 y61 y62 y63 y64 y65 y66 y67 y68 y69 y70 y71 y72 y73 y74 y75 y76 y77 y78 y79 y80 y81 y82 y83 y84 y85 y86 y87 y88 y89 y90 y91 y92 y93 y94 y95 y96 y97 y98 y99 y100 y101 y102 y103 y104 y105 y106 y107 y108 y109 y110 y111 y112
       exact Fp hP hp hX c3 c4 h3 h4 em es (hl.keep HB) hok hn sa sb sr (Au' hT HB) hg (fun w' h=>⟨rfl,Ae' HB h⟩)
end Go.Proofs.YtflopjfnppolgaaGreatDoor.Rf
