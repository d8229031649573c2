/-
  Contracts of the functions that the law calls, for every input (Qnn Qz Qj).
-/
import Derived.Test.YtcicfnlljdnagaaGreatDoorY00
import Derived.Test.YtcicfnlljdnagaaGreatDoorY39
import Derived.Test.YtcicfnlljdnagaaGreatDoorY33
import Derived.Test.YtcicfnlljdnagaaGreatDoorY34
set_option linter.all false
set_option maxRecDepth 100000
set_option maxHeartbeats 40000000
namespace Go.Proofs.YtcicfnlljdnagaaGreatDoor.Rf
open Lib (hid)
open Go.RowKit
open Rx
open Vx (Ab' Ah Ah')
open List renaming getElem?_toArray → lg, getElem?_cons_zero → lz, getElem?_cons_succ → ls, setIfInBounds_toArray → lt, set_cons_zero → ly, set_cons_succ → lu
theorem H5' {b b' b'':Bool} {A1 A2 A3 A4 A5 A6:Option Addr} {n1 c1 n2 c2 n3 c3 n4 c4 n5 c5 n6 c6:Nat}:Cw' #[.bool b,.slice A1 n1 c1,.slice A2 n2 c2,.bool b',.slice A3 n3 c3,.slice A4 n4 c4,.bool b'',.slice A5 n5 c5,.slice A6 n6 c6]:=by
 intro i k n
 match i with
 | 0=>exact fun h=>by cases h
 | 1=>exact fun h=>by cases h
 | 2=>exact fun h=>by cases h
 | 3=>exact fun h=>by cases h
 | 4=>exact fun h=>by cases h
 | 5=>exact fun h=>by cases h
 | 6=>exact fun h=>by cases h
 | 7=>exact fun h=>by cases h
 | 8=>exact fun h=>by cases h
 | i+9=>simp
theorem AZ {b b' b'':Bool} {A1 A2 A3 A4 A5 A6:Option Addr} {n1 c1 n2 c2 n3 c3 n4 c4 n5 c5 n6 c6:Nat}:∀ (i:Nat) (k:Int),(#[.bool b,.slice A1 n1 c1,.slice A2 n2 c2,.bool b',.slice A3 n3 c3,.slice A4 n4 c4,.bool b'',.slice A5 n5 c5,.slice A6 n6 c6]:Array Value)[i]?≠some (.int .i64 k):=by
 intro i k
 match i with
 | 0=>simp
 | 1=>simp
 | 2=>simp
 | 3=>simp
 | 4=>simp
 | 5=>simp
 | 6=>simp
 | 7=>simp
 | 8=>simp
 | i+9=>simp
theorem Fs' {w w':World} {b:Nat} {T:TypeId} {s1 s2 s3 t1 t2 t3:Bool} {A1 A2 A3 A4 A5 A6 B1 B2 B3 B4 B5 B6:Option Addr} {n1 c1 n2 c2 n3 c3 n4 c4 n5 c5 n6 c6 m1 d1 m2 d2 m3 d3 m4 d4 m5 d5 m6 d6:Nat} (L:w.heap[b]?=some (.cells #[.bool t1,.slice B1 m1 d1,.slice B2 m2 d2,.bool t2,.slice B3 m3 d3,.slice B4 m4 d4,.bool t3,.slice B5 m5 d5,.slice B6 m6 d6] T (0,0))) (hw:w'=(((((((((w.setCell ⟨b,0,none⟩ (.bool s1)).setCell ⟨b,1,none⟩ (.slice A1 n1 c1)).setCell ⟨b,2,none⟩ (.slice A2 n2 c2)).setCell ⟨b,3,none⟩ (.bool s2)).setCell ⟨b,4,none⟩ (.slice A3 n3 c3)).setCell ⟨b,5,none⟩ (.slice A4 n4 c4)).setCell ⟨b,6,none⟩ (.bool s3)).setCell ⟨b,7,none⟩ (.slice A5 n5 c5)).setCell ⟨b,8,none⟩ (.slice A6 n6 c6))) :
   w'.heap[b]?=some (.cells #[.bool s1,.slice A1 n1 c1,.slice A2 n2 c2,.bool s2,.slice A3 n3 c3,.slice A4 n4 c4,.bool s3,.slice A5 n5 c5,.slice A6 n6 c6] T (0,0))∧(∀ (n:Nat) (o:Obj),n≠b→w.heap[n]?=some o→w'.heap[n]?=some o)∧A6' w w'∧(∀ (N:Nat) (wB:World),N≤b→Below N wB w→Below N wB w'):=by
 have g1:=heap_setCell_same w b 0 _ _ (.bool s1) L
 have g2:=heap_setCell_same _ b 1 _ _ (.slice A1 n1 c1) g1
 have g3:=heap_setCell_same _ b 2 _ _ (.slice A2 n2 c2) g2
 have g4:=heap_setCell_same _ b 3 _ _ (.bool s2) g3
 have g5:=heap_setCell_same _ b 4 _ _ (.slice A3 n3 c3) g4
 have g6:=heap_setCell_same _ b 5 _ _ (.slice A4 n4 c4) g5
 have g7:=heap_setCell_same _ b 6 _ _ (.bool s3) g6
 have g8:=heap_setCell_same _ b 7 _ _ (.slice A5 n5 c5) g7
 have g9:=heap_setCell_same _ b 8 _ _ (.slice A6 n6 c6) g8
 have k0:Ak' 9 T w b w:=Ak'.start rfl H5' L
 have k1:=k0.set (i:=0) (AO s1)
 have k2:=k1.set (i:=1) (Au A1 n1 c1)
 have k3:=k2.set (i:=2) (Au A2 n2 c2)
 have k4:=k3.set (i:=3) (AO s2)
 have k5:=k4.set (i:=4) (Au A3 n3 c3)
 have k6:=k5.set (i:=5) (Au A4 n4 c4)
 have k7:=k6.set (i:=6) (AO s3)
 have k8:=k7.set (i:=7) (Au A5 n5 c5)
 have S:Aj' w w':=by rw [hw];exact ((((((((((Aj'.refl w).put k0).put k1).put k2).put k3).put k4).put k5).put k6).put k7).put k8)
 have R:∀ v z,Am' w v z→Am' w' v z:=fun v z hv=>by rw [hw];exact (((((((((hv.other (i:=0) (u:=.bool s1) L AZ).other (i:=1) (u:=.slice A1 n1 c1) g1 AZ).other (i:=2) (u:=.slice A2 n2 c2) g2 AZ).other (i:=3) (u:=.bool s2) g3 AZ).other (i:=4) (u:=.slice A3 n3 c3) g4 AZ).other (i:=5) (u:=.slice A4 n4 c4) g5 AZ).other (i:=6) (u:=.bool s3) g6 AZ).other (i:=7) (u:=.slice A5 n5 c5) g7 AZ).other (i:=8) (u:=.slice A6 n6 c6) g8 AZ)
 refine ⟨by rw [hw,g9];simp only [lt,ly,lu],fun n o hne ho=>by rw [hw,heap_setCell_other _ _ _ _ hne,heap_setCell_other _ _ _ _ hne,heap_setCell_other _ _ _ _ hne,heap_setCell_other _ _ _ _ hne,heap_setCell_other _ _ _ _ hne,heap_setCell_other _ _ _ _ hne,heap_setCell_other _ _ _ _ hne,heap_setCell_other _ _ _ _ hne,heap_setCell_other _ _ _ _ hne];exact ho,⟨S,R⟩,fun N wB hN hB=>?_⟩
 rw [hw];exact (((((((((hB.setCell (p:=⟨b,0,none⟩) hN _).setCell (p:=⟨b,1,none⟩) hN _).setCell (p:=⟨b,2,none⟩) hN _).setCell (p:=⟨b,3,none⟩) hN _).setCell (p:=⟨b,4,none⟩) hN _).setCell (p:=⟨b,5,none⟩) hN _).setCell (p:=⟨b,6,none⟩) hN _).setCell (p:=⟨b,7,none⟩) hN _).setCell (p:=⟨b,8,none⟩) hN _)
theorem CJ' {w:World} {b:Nat} {v0 v1 v2 v3 v4 v5 v6 v7 v8:Value} {ty:TypeId} (h:w.heap[b]?=some (.cells #[v0,v1,v2,v3,v4,v5,v6,v7,v8] ty (0,0))):w.cell? ⟨b,0,none⟩=some v0∧w.cell? ⟨b,1,none⟩=some v1∧w.cell? ⟨b,2,none⟩=some v2∧w.cell? ⟨b,3,none⟩=some v3∧w.cell? ⟨b,4,none⟩=some v4∧w.cell? ⟨b,5,none⟩=some v5∧w.cell? ⟨b,6,none⟩=some v6∧w.cell? ⟨b,7,none⟩=some v7∧w.cell? ⟨b,8,none⟩=some v8:=⟨cR _ _ 0 _ _ _ h,cR _ _ 1 _ _ _ h,cR _ _ 2 _ _ _ h,cR _ _ 3 _ _ _ h,cR _ _ 4 _ _ _ h,cR _ _ 5 _ _ _ h,cR _ _ 6 _ _ _ h,cR _ _ 7 _ _ _ h,cR _ _ 8 _ _ _ h⟩
def H6 (w:World) (v:Value) (a b e:Rat):Prop:=∃ A1 c1 B1 d1 A2 c2 B2 d2 A3 c3 B3 d3,v=.agg #[.bool (decide (a.num<0)),.slice A1 (len a.num.natAbs) c1,.slice B1 (len a.den) d1,.bool (decide (b.num<0)),.slice A2 (len b.num.natAbs) c2,.slice B2 (len b.den) d2,.bool (decide (e.num<0)),.slice A3 (len e.num.natAbs) c3,.slice B3 (len e.den) d3]∧Bo' w (.agg #[.bool (decide (a.num<0)),.slice A1 (len a.num.natAbs) c1,.slice B1 (len a.den) d1,.bool (decide (b.num<0)),.slice A2 (len b.num.natAbs) c2,.slice B2 (len b.den) d2]) a b∧Av' w (.agg #[.bool (decide (e.num<0)),.slice A3 (len e.num.natAbs) c3,.slice B3 (len e.den) d3]) e
def He (w:World) (a b r:Rat) (e:Ending) (w':World):Prop:=∃ v v2,e=.returned (.tuple #[v,v2])∧AQ' w' v a b r∧H6 w' v2 a b r∧Below w.heap.size w w'
theorem GA {w:World} {M0 M1 M2:Int} {D0 D1 D2:Nat} {x y lo hi r:Rat} (h1 : -2147483648≤M0) (h2:M0≤2147483647) (h3:D0≤255) (h4 : -2147483648≤M1) (h5:M1≤2147483647) (h6:D1≤255) (ex:AE M0 D0=x) (ey:AE M1 D1=y) (h7 : -2147483648≤M2) (h8:M2≤2147483647) (h9:D2≤255) (er:AE M2 D2=r) (el:leastOf x [y]=lo) (eh:greatestOf x [y]=hi) :
   Calls Tryz.prog 33 #[.agg #[.int .i32 M0,.int .u8 ((D0:Nat):Int),.int .i32 M1,.int .u8 ((D1:Nat):Int),.int .i32 M2,.int .u8 ((D2:Nat):Int)]] w (He w lo hi r):=by
 obtain ⟨w1,hw⟩:=eX (((w.alloc (.cells #[.int .i32 M0,.int .u8 ((D0:Nat):Int),.int .i32 M1,.int .u8 ((D1:Nat):Int),.int .i32 M2,.int .u8 ((D2:Nat):Int)] 77)).alloc (.cells #[.bool false,.slice none 0 0,.slice none 0 0,.bool false,.slice none 0 0,.slice none 0 0,.bool false,.slice none 0 0,.slice none 0 0] 71)).alloc (.cells #[.bool false,.slice none 0 0,.slice none 0 0,.bool false,.slice none 0 0,.slice none 0 0,.bool false,.slice none 0 0,.slice none 0 0] 73))
 obtain ⟨b1,g1,g2,g3⟩:=AD hw
 have hbel:=Af' g1
 have z0:w1.cell? ⟨w.heap.size,0,none⟩=some (.int .i32 M0):=cR _ _ 0 _ _ _ g1
 have z1:w1.cell? ⟨w.heap.size,1,none⟩=some (.int .u8 ((D0:Nat):Int)):=cR _ _ 1 _ _ _ g1
 have z2:w1.cell? ⟨w.heap.size,2,none⟩=some (.int .i32 M1):=cR _ _ 2 _ _ _ g1
 have z3:w1.cell? ⟨w.heap.size,3,none⟩=some (.int .u8 ((D1:Nat):Int)):=cR _ _ 3 _ _ _ g1
 have z4:w1.cell? ⟨w.heap.size,4,none⟩=some (.int .i32 M2):=cR _ _ 4 _ _ _ g1
 have z5:w1.cell? ⟨w.heap.size,5,none⟩=some (.int .u8 ((D2:Nat):Int)):=cR _ _ 5 _ _ _ g1
 replace b1:=hid b1
 replace g1:=hid g1
 replace g2:=hid g2
 replace g3:=hid g3
 replace ex:=hid ex
 replace ey:=hid ey
 replace el:=hid el
 replace eh:=hid eh
 replace er:=hid er
 replace h1:=hid h1
 replace h2:=hid h2
 replace h3:=hid h3
 replace h4:=hid h4
 replace h5:=hid h5
 replace h6:=hid h6
 replace h7:=hid h7
 replace h8:=hid h8
 replace h9:=hid h9
 go_enter Tryz.func33,Tryz.ntmps33
 go_upto_region 1 with fail
 rw [←hw]
 clear hw
 have HX:=hid (CX' (w:=w1) h1.out h2.out h3.out h4.out h5.out h6.out ex.out ey.out el.out eh.out)
 go_wp2_with fail
 refine (HX.out).mono ?_
 rintro e w2 ⟨va2,vb2,rfl,ha2,hb2,b2⟩
 obtain ⟨C1,j1,C2,j2,C3,j3,C4,j4,rfl,-,-,-,-⟩:=id ha2.opened
 replace ha2:=hid ha2
 obtain ⟨C5,j5,C6,j6,C7,j7,C8,j8,rfl,-,-,-,-⟩:=id hb2.opened
 replace hb2:=hid hb2
 replace b2:=hid b2
 clear HX
 have hlR:=Af' (Ac' g3.out b2.out)
 go_upto_region 2 with fail
 obtain ⟨w3,hw3⟩:=eX ((w2.alloc (.cells #[.bool (decide (lo.num<0)),.slice C1 (Vx.len lo.num.natAbs) j1,.slice C2 (Vx.len (below lo.den)) j2,.bool (decide (hi.num<0)),.slice C3 (Vx.len hi.num.natAbs) j3,.slice C4 (Vx.len (below hi.den)) j4] 34)).alloc (.cells #[.bool (decide (lo.num<0)),.slice C5 (len lo.num.natAbs) j5,.slice C6 (len lo.den) j6,.bool (decide (hi.num<0)),.slice C7 (len hi.num.natAbs) j7,.slice C8 (len hi.den) j8] 40))
 obtain ⟨b3,L3,M3⟩:=CV hw3
 rw [←hw3]
 clear hw3
 replace b3:=hid b3
 replace L3:=hid L3
 replace M3:=hid M3
 clear z0 z1 z2 z3 z4 z5
 have y1_3:=hid (bS b2.out b3.out)
 have gT:=Ac' g1.out y1_3.out
 have z0:w3.cell? ⟨w.heap.size,0,none⟩=some (.int .i32 M0):=cR _ _ 0 _ _ _ gT
 have z1:w3.cell? ⟨w.heap.size,1,none⟩=some (.int .u8 ((D0:Nat):Int)):=cR _ _ 1 _ _ _ gT
 have z2:w3.cell? ⟨w.heap.size,2,none⟩=some (.int .i32 M1):=cR _ _ 2 _ _ _ gT
 have z3:w3.cell? ⟨w.heap.size,3,none⟩=some (.int .u8 ((D1:Nat):Int)):=cR _ _ 3 _ _ _ gT
 have z4:w3.cell? ⟨w.heap.size,4,none⟩=some (.int .i32 M2):=cR _ _ 4 _ _ _ gT
 have z5:w3.cell? ⟨w.heap.size,5,none⟩=some (.int .u8 ((D2:Nat):Int)):=cR _ _ 5 _ _ _ gT
 have hT:=Af' gT
 obtain ⟨z_bx_0,z_bx_1,z_bx_2,z_bx_3,z_bx_4,z_bx_5⟩:=Af L3.out
 obtain ⟨z_rb_0,z_rb_1,z_rb_2,z_rb_3,z_rb_4,z_rb_5⟩:=Af M3.out
 have hbxl:=Af' L3.out
 have hrbl:=Af' M3.out
 go_wp2_with fail
 refine wp_region_held_drew (S:=(fun w'=>(w'.cell? ⟨w.heap.size,0,none⟩=w3.cell? ⟨w.heap.size,0,none⟩∧w'.cell? ⟨w.heap.size,1,none⟩=w3.cell? ⟨w.heap.size,1,none⟩∧w'.cell? ⟨w.heap.size,2,none⟩=w3.cell? ⟨w.heap.size,2,none⟩∧w'.cell? ⟨w.heap.size,3,none⟩=w3.cell? ⟨w.heap.size,3,none⟩∧w'.cell? ⟨w.heap.size,4,none⟩=w3.cell? ⟨w.heap.size,4,none⟩∧w'.cell? ⟨w.heap.size,5,none⟩=w3.cell? ⟨w.heap.size,5,none⟩∧w'.cell? ⟨w2.heap.size,0,none⟩=w3.cell? ⟨w2.heap.size,0,none⟩∧w'.cell? ⟨w2.heap.size,1,none⟩=w3.cell? ⟨w2.heap.size,1,none⟩∧w'.cell? ⟨w2.heap.size,2,none⟩=w3.cell? ⟨w2.heap.size,2,none⟩∧w'.cell? ⟨w2.heap.size,3,none⟩=w3.cell? ⟨w2.heap.size,3,none⟩∧w'.cell? ⟨w2.heap.size,4,none⟩=w3.cell? ⟨w2.heap.size,4,none⟩∧w'.cell? ⟨w2.heap.size,5,none⟩=w3.cell? ⟨w2.heap.size,5,none⟩∧w'.cell? ⟨w2.heap.size+1,0,none⟩=w3.cell? ⟨w2.heap.size+1,0,none⟩∧w'.cell? ⟨w2.heap.size+1,1,none⟩=w3.cell? ⟨w2.heap.size+1,1,none⟩∧w'.cell? ⟨w2.heap.size+1,2,none⟩=w3.cell? ⟨w2.heap.size+1,2,none⟩∧w'.cell? ⟨w2.heap.size+1,3,none⟩=w3.cell? ⟨w2.heap.size+1,3,none⟩∧w'.cell? ⟨w2.heap.size+1,4,none⟩=w3.cell? ⟨w2.heap.size+1,4,none⟩∧w'.cell? ⟨w2.heap.size+1,5,none⟩=w3.cell? ⟨w2.heap.size+1,5,none⟩))) (by kernel_rfl) ?_ (fun hHeld=>?_)
 · (try dsimp only)
   exact ⟨rfl,rfl,rfl,rfl,rfl,rfl,rfl,rfl,rfl,rfl,rfl,rfl,rfl,rfl,rfl,rfl,rfl,rfl⟩
 obtain ⟨w4,hw4⟩:=eX w3.drew
 have b4:Hid (Below w3.heap.size w3 w4):=hid (by rw [hw4];exact ⟨rfl,rfl,rfl,nL _,fun _ _=>rfl⟩)
 rw [←hw4] at hHeld ⊢
 clear hw4
 have y0_4:=hid (bS (bS (bS b1.out b2.out) b3.out) b4.out)
 have lbW:w.heap.size≤w4.heap.size:=y0_4.out.size
 have lbS:w3.heap.size≤w4.heap.size:=b4.out.size
 have y1_4:=hid (bS y1_3.out b4.out)
 have lc_R1:w.heap.size+1<w4.heap.size:=Af' (Ac' g2.out y1_4.out)
 have lc_R2:w.heap.size+2<w4.heap.size:=Af' (Ac' g3.out y1_4.out)
 refine tk (i:=0) (h:=?_)
 try simp only [Act.put,lt,ly,lu]
 refine tk (i:=1) (h:=?_)
 try simp only [Act.put,lt,ly,lu]
 refine tk (i:=2) (h:=?_)
 try simp only [Act.put,lt,ly,lu]
 refine tk (i:=5) (h:=?_)
 try simp only [Act.put,lt,ly,lu]
 refine tk (i:=6) (h:=?_)
 try simp only [Act.put,lt,ly,lu]
 refine tk (i:=7) (h:=?_)
 try simp only [Act.put,lt,ly,lu]
 refine rd (i:=3) (h:=fun K hK=>?_)
 go_simp;go_at_call 16
 refine (Cd' h7.out h8.out h9.out er.out).mono ?_
 rintro e w5 ⟨v5,rfl,hv5,b5⟩
 obtain ⟨C9,j9,C10,j10,rfl,-,-⟩:=id hv5.opened
 replace hv5:=hid hv5
 replace b5:=hid b5
 have y3_5:=hid (bS b4.out b5.out)
 have hS:=y3_5.out
 clear hHeld
 refine hK.out _ _ ?_ (fun hHeld=>?_)
 · (try dsimp only)
   exact ⟨hS.cell (p:=⟨w.heap.size,0,none⟩) hT,hS.cell (p:=⟨w.heap.size,1,none⟩) hT,hS.cell (p:=⟨w.heap.size,2,none⟩) hT,hS.cell (p:=⟨w.heap.size,3,none⟩) hT,hS.cell (p:=⟨w.heap.size,4,none⟩) hT,hS.cell (p:=⟨w.heap.size,5,none⟩) hT,hS.cell (p:=⟨w2.heap.size,0,none⟩) hbxl,hS.cell (p:=⟨w2.heap.size,1,none⟩) hbxl,hS.cell (p:=⟨w2.heap.size,2,none⟩) hbxl,hS.cell (p:=⟨w2.heap.size,3,none⟩) hbxl,hS.cell (p:=⟨w2.heap.size,4,none⟩) hbxl,hS.cell (p:=⟨w2.heap.size,5,none⟩) hbxl,hS.cell (p:=⟨w2.heap.size+1,0,none⟩) hrbl,hS.cell (p:=⟨w2.heap.size+1,1,none⟩) hrbl,hS.cell (p:=⟨w2.heap.size+1,2,none⟩) hrbl,hS.cell (p:=⟨w2.heap.size+1,3,none⟩) hrbl,hS.cell (p:=⟨w2.heap.size+1,4,none⟩) hrbl,hS.cell (p:=⟨w2.heap.size+1,5,none⟩) hrbl⟩
 clear hK K hS;try simp only [Act.put,lt,ly,lu]
 refine tk (i:=4) (h:=?_)
 try simp only [Act.put,lt,ly,lu]
 refine rd (i:=8) (h:=fun K hK=>?_)
 go_simp;go_at_call 24
 refine (Df h7.out h8.out h9.out er.out).mono ?_
 rintro e w6 ⟨v6,rfl,hv6,b6⟩
 obtain ⟨C11,j11,C12,j12,rfl,-,-⟩:=id hv6.opened
 replace hv6:=hid hv6
 replace b6:=hid b6
 have y3_6:=hid (bS y3_5.out b6.out)
 have hS:=y3_6.out
 clear hHeld
 refine hK.out _ _ ?_ (fun hHeld=>?_)
 · (try dsimp only)
   exact ⟨hS.cell (p:=⟨w.heap.size,0,none⟩) hT,hS.cell (p:=⟨w.heap.size,1,none⟩) hT,hS.cell (p:=⟨w.heap.size,2,none⟩) hT,hS.cell (p:=⟨w.heap.size,3,none⟩) hT,hS.cell (p:=⟨w.heap.size,4,none⟩) hT,hS.cell (p:=⟨w.heap.size,5,none⟩) hT,hS.cell (p:=⟨w2.heap.size,0,none⟩) hbxl,hS.cell (p:=⟨w2.heap.size,1,none⟩) hbxl,hS.cell (p:=⟨w2.heap.size,2,none⟩) hbxl,hS.cell (p:=⟨w2.heap.size,3,none⟩) hbxl,hS.cell (p:=⟨w2.heap.size,4,none⟩) hbxl,hS.cell (p:=⟨w2.heap.size,5,none⟩) hbxl,hS.cell (p:=⟨w2.heap.size+1,0,none⟩) hrbl,hS.cell (p:=⟨w2.heap.size+1,1,none⟩) hrbl,hS.cell (p:=⟨w2.heap.size+1,2,none⟩) hrbl,hS.cell (p:=⟨w2.heap.size+1,3,none⟩) hrbl,hS.cell (p:=⟨w2.heap.size+1,4,none⟩) hrbl,hS.cell (p:=⟨w2.heap.size+1,5,none⟩) hrbl⟩
 clear hK K hS;try simp only [Act.put,lt,ly,lu]
 refine tk (i:=9) (h:=?_)
 try simp only [Act.put,lt,ly,lu]
 refine rd (i:=10) (h:=fun K hK=>?_)
 have y1_6:=hid (bS (bS y1_4.out b5.out) b6.out)
 have DBq12:=Ac' g2.out y1_6.out
 have q0:w6.cell? ⟨w.heap.size+1,0,none⟩=some (.bool false):=cR _ _ _ _ _ _ DBq12
 have F0:w6.frozen? ⟨w.heap.size+1,0,none⟩=false:=fR w6 (w.heap.size+1) 0 _ _ DBq12
 have q1:w6.cell? ⟨w.heap.size+1,1,none⟩=some (.slice none 0 0):=cR _ _ _ _ _ _ DBq12
 have F1:w6.frozen? ⟨w.heap.size+1,1,none⟩=false:=fR w6 (w.heap.size+1) 1 _ _ DBq12
 have q2:w6.cell? ⟨w.heap.size+1,2,none⟩=some (.slice none 0 0):=cR _ _ _ _ _ _ DBq12
 have F2:w6.frozen? ⟨w.heap.size+1,2,none⟩=false:=fR w6 (w.heap.size+1) 2 _ _ DBq12
 have q3:w6.cell? ⟨w.heap.size+1,3,none⟩=some (.bool false):=cR _ _ _ _ _ _ DBq12
 have F3:w6.frozen? ⟨w.heap.size+1,3,none⟩=false:=fR w6 (w.heap.size+1) 3 _ _ DBq12
 have q4:w6.cell? ⟨w.heap.size+1,4,none⟩=some (.slice none 0 0):=cR _ _ _ _ _ _ DBq12
 have F4:w6.frozen? ⟨w.heap.size+1,4,none⟩=false:=fR w6 (w.heap.size+1) 4 _ _ DBq12
 have q5:w6.cell? ⟨w.heap.size+1,5,none⟩=some (.slice none 0 0):=cR _ _ _ _ _ _ DBq12
 have F5:w6.frozen? ⟨w.heap.size+1,5,none⟩=false:=fR w6 (w.heap.size+1) 5 _ _ DBq12
 have q6:w6.cell? ⟨w.heap.size+1,6,none⟩=some (.bool false):=cR _ _ _ _ _ _ DBq12
 have F6:w6.frozen? ⟨w.heap.size+1,6,none⟩=false:=fR w6 (w.heap.size+1) 6 _ _ DBq12
 have q7:w6.cell? ⟨w.heap.size+1,7,none⟩=some (.slice none 0 0):=cR _ _ _ _ _ _ DBq12
 have F7:w6.frozen? ⟨w.heap.size+1,7,none⟩=false:=fR w6 (w.heap.size+1) 7 _ _ DBq12
 have q8:w6.cell? ⟨w.heap.size+1,8,none⟩=some (.slice none 0 0):=cR _ _ _ _ _ _ DBq12
 have F8:w6.frozen? ⟨w.heap.size+1,8,none⟩=false:=fR w6 (w.heap.size+1) 8 _ _ DBq12
 have y0_6:=hid (bS (bS y0_4.out b5.out) b6.out)
 have y2_6:=hid (bS (bS (bS b3.out b4.out) b5.out) b6.out)
 have hS:=y3_6.out
 have hz7:w3.heap.size≤w6.heap.size:=hS.size
 go_simp
 clear q0 F0 q1 F1 q2 F2 q3 F3 q4 F4 q5 F5 q6 F6 q7 F7 q8 F8
 have FV:=hid True.intro
 have FB:=hid y0_6.out
 obtain ⟨w7,hw⟩:=eX ((((((((((w6.setCell ⟨w.heap.size+1,0,none⟩ (.bool (decide (lo.num<0)))).setCell ⟨w.heap.size+1,1,none⟩ (.slice C1 (Vx.len lo.num.natAbs) j1)).setCell ⟨w.heap.size+1,2,none⟩ (.slice C2 (Vx.len (below lo.den)) j2)).setCell ⟨w.heap.size+1,3,none⟩ (.bool (decide (hi.num<0)))).setCell ⟨w.heap.size+1,4,none⟩ (.slice C3 (Vx.len hi.num.natAbs) j3)).setCell ⟨w.heap.size+1,5,none⟩ (.slice C4 (Vx.len (below hi.den)) j4)).setCell ⟨w.heap.size+1,6,none⟩ (.bool (decide (r.num<0)))).setCell ⟨w.heap.size+1,7,none⟩ (.slice C9 (Vx.len r.num.natAbs) j9)).setCell ⟨w.heap.size+1,8,none⟩ (.slice C10 (Vx.len (below r.den)) j10)))
 have hse7:w7.heap.size=w6.heap.size:=by rw [hw];simp
 obtain ⟨E,OT,LV,BL⟩:=Fs' DBq12 hw
 rw [←hw]
 clear hw
 have L7:=hid E
 have FB7:=hid (BL _ _ (by omega) FB.out)
 have LKR27:=hid (OT _ _ (by omega) (Ac' g3.out y1_6.out))
 have KVbx7:=hid (LV.box (ha2.out.keep y2_6.out))
 have KVrb7:=hid (LV.rbox (hb2.out.keep y2_6.out))
 have KVer7:=hid (LV.num (hv5.out.keep b6.out))
 have KVrr7:=hid (LV.rat hv6.out)
 have s0_7:w7.cell? ⟨w.heap.size,0,none⟩=w3.cell? ⟨w.heap.size,0,none⟩:=(Aa' OT (by omega) (ltl hT hz7)).trans (hS.cell (p:=⟨w.heap.size,0,none⟩) hT)
 have s1_7:w7.cell? ⟨w.heap.size,1,none⟩=w3.cell? ⟨w.heap.size,1,none⟩:=(Aa' OT (by omega) (ltl hT hz7)).trans (hS.cell (p:=⟨w.heap.size,1,none⟩) hT)
 have s2_7:w7.cell? ⟨w.heap.size,2,none⟩=w3.cell? ⟨w.heap.size,2,none⟩:=(Aa' OT (by omega) (ltl hT hz7)).trans (hS.cell (p:=⟨w.heap.size,2,none⟩) hT)
 have s3_7:w7.cell? ⟨w.heap.size,3,none⟩=w3.cell? ⟨w.heap.size,3,none⟩:=(Aa' OT (by omega) (ltl hT hz7)).trans (hS.cell (p:=⟨w.heap.size,3,none⟩) hT)
 have s4_7:w7.cell? ⟨w.heap.size,4,none⟩=w3.cell? ⟨w.heap.size,4,none⟩:=(Aa' OT (by omega) (ltl hT hz7)).trans (hS.cell (p:=⟨w.heap.size,4,none⟩) hT)
 have s5_7:w7.cell? ⟨w.heap.size,5,none⟩=w3.cell? ⟨w.heap.size,5,none⟩:=(Aa' OT (by omega) (ltl hT hz7)).trans (hS.cell (p:=⟨w.heap.size,5,none⟩) hT)
 have s6_7:w7.cell? ⟨w2.heap.size,0,none⟩=w3.cell? ⟨w2.heap.size,0,none⟩:=(Aa' OT (by omega) (ltl hbxl hz7)).trans (hS.cell (p:=⟨w2.heap.size,0,none⟩) hbxl)
 have s7_7:w7.cell? ⟨w2.heap.size,1,none⟩=w3.cell? ⟨w2.heap.size,1,none⟩:=(Aa' OT (by omega) (ltl hbxl hz7)).trans (hS.cell (p:=⟨w2.heap.size,1,none⟩) hbxl)
 have s8_7:w7.cell? ⟨w2.heap.size,2,none⟩=w3.cell? ⟨w2.heap.size,2,none⟩:=(Aa' OT (by omega) (ltl hbxl hz7)).trans (hS.cell (p:=⟨w2.heap.size,2,none⟩) hbxl)
 have s9_7:w7.cell? ⟨w2.heap.size,3,none⟩=w3.cell? ⟨w2.heap.size,3,none⟩:=(Aa' OT (by omega) (ltl hbxl hz7)).trans (hS.cell (p:=⟨w2.heap.size,3,none⟩) hbxl)
 have s10_7:w7.cell? ⟨w2.heap.size,4,none⟩=w3.cell? ⟨w2.heap.size,4,none⟩:=(Aa' OT (by omega) (ltl hbxl hz7)).trans (hS.cell (p:=⟨w2.heap.size,4,none⟩) hbxl)
 have s11_7:w7.cell? ⟨w2.heap.size,5,none⟩=w3.cell? ⟨w2.heap.size,5,none⟩:=(Aa' OT (by omega) (ltl hbxl hz7)).trans (hS.cell (p:=⟨w2.heap.size,5,none⟩) hbxl)
 have s12_7:w7.cell? ⟨w2.heap.size+1,0,none⟩=w3.cell? ⟨w2.heap.size+1,0,none⟩:=(Aa' OT (by omega) (ltl hrbl hz7)).trans (hS.cell (p:=⟨w2.heap.size+1,0,none⟩) hrbl)
 have s13_7:w7.cell? ⟨w2.heap.size+1,1,none⟩=w3.cell? ⟨w2.heap.size+1,1,none⟩:=(Aa' OT (by omega) (ltl hrbl hz7)).trans (hS.cell (p:=⟨w2.heap.size+1,1,none⟩) hrbl)
 have s14_7:w7.cell? ⟨w2.heap.size+1,2,none⟩=w3.cell? ⟨w2.heap.size+1,2,none⟩:=(Aa' OT (by omega) (ltl hrbl hz7)).trans (hS.cell (p:=⟨w2.heap.size+1,2,none⟩) hrbl)
 have s15_7:w7.cell? ⟨w2.heap.size+1,3,none⟩=w3.cell? ⟨w2.heap.size+1,3,none⟩:=(Aa' OT (by omega) (ltl hrbl hz7)).trans (hS.cell (p:=⟨w2.heap.size+1,3,none⟩) hrbl)
 have s16_7:w7.cell? ⟨w2.heap.size+1,4,none⟩=w3.cell? ⟨w2.heap.size+1,4,none⟩:=(Aa' OT (by omega) (ltl hrbl hz7)).trans (hS.cell (p:=⟨w2.heap.size+1,4,none⟩) hrbl)
 have s17_7:w7.cell? ⟨w2.heap.size+1,5,none⟩=w3.cell? ⟨w2.heap.size+1,5,none⟩:=(Aa' OT (by omega) (ltl hrbl hz7)).trans (hS.cell (p:=⟨w2.heap.size+1,5,none⟩) hrbl)
 refine hK.out _ _ ?_ (fun hHeld2=>?_)
 · (try dsimp only)
   exact ⟨s0_7,s1_7,s2_7,s3_7,s4_7,s5_7,s6_7,s7_7,s8_7,s9_7,s10_7,s11_7,s12_7,s13_7,s14_7,s15_7,s16_7,s17_7⟩
 clear hK K hHeld hS OT LV BL FV FB E DBq12
 try simp only [Act.put,lt,ly,lu]
 have hHeld:=hHeld2
 clear hHeld2
 refine rd (i:=11) (h:=fun K hK=>?_)
 have DBq14:=Ac' LKR27.out (Below.refl _ w7)
 have q0:w7.cell? ⟨w.heap.size+2,0,none⟩=some (.bool false):=cR _ _ _ _ _ _ DBq14
 have F0:w7.frozen? ⟨w.heap.size+2,0,none⟩=false:=fR w7 (w.heap.size+2) 0 _ _ DBq14
 have q1:w7.cell? ⟨w.heap.size+2,1,none⟩=some (.slice none 0 0):=cR _ _ _ _ _ _ DBq14
 have F1:w7.frozen? ⟨w.heap.size+2,1,none⟩=false:=fR w7 (w.heap.size+2) 1 _ _ DBq14
 have q2:w7.cell? ⟨w.heap.size+2,2,none⟩=some (.slice none 0 0):=cR _ _ _ _ _ _ DBq14
 have F2:w7.frozen? ⟨w.heap.size+2,2,none⟩=false:=fR w7 (w.heap.size+2) 2 _ _ DBq14
 have q3:w7.cell? ⟨w.heap.size+2,3,none⟩=some (.bool false):=cR _ _ _ _ _ _ DBq14
 have F3:w7.frozen? ⟨w.heap.size+2,3,none⟩=false:=fR w7 (w.heap.size+2) 3 _ _ DBq14
 have q4:w7.cell? ⟨w.heap.size+2,4,none⟩=some (.slice none 0 0):=cR _ _ _ _ _ _ DBq14
 have F4:w7.frozen? ⟨w.heap.size+2,4,none⟩=false:=fR w7 (w.heap.size+2) 4 _ _ DBq14
 have q5:w7.cell? ⟨w.heap.size+2,5,none⟩=some (.slice none 0 0):=cR _ _ _ _ _ _ DBq14
 have F5:w7.frozen? ⟨w.heap.size+2,5,none⟩=false:=fR w7 (w.heap.size+2) 5 _ _ DBq14
 have q6:w7.cell? ⟨w.heap.size+2,6,none⟩=some (.bool false):=cR _ _ _ _ _ _ DBq14
 have F6:w7.frozen? ⟨w.heap.size+2,6,none⟩=false:=fR w7 (w.heap.size+2) 6 _ _ DBq14
 have q7:w7.cell? ⟨w.heap.size+2,7,none⟩=some (.slice none 0 0):=cR _ _ _ _ _ _ DBq14
 have F7:w7.frozen? ⟨w.heap.size+2,7,none⟩=false:=fR w7 (w.heap.size+2) 7 _ _ DBq14
 have q8:w7.cell? ⟨w.heap.size+2,8,none⟩=some (.slice none 0 0):=cR _ _ _ _ _ _ DBq14
 have F8:w7.frozen? ⟨w.heap.size+2,8,none⟩=false:=fR w7 (w.heap.size+2) 8 _ _ DBq14
 have hz8:w3.heap.size≤w7.heap.size:=nT hz7 (Nat.le_of_eq hse7.symm)
 go_simp
 clear q0 F0 q1 F1 q2 F2 q3 F3 q4 F4 q5 F5 q6 F6 q7 F7 q8 F8
 have FV:=hid True.intro
 have FB:=hid FB7.out
 obtain ⟨w8,hw⟩:=eX ((((((((((w7.setCell ⟨w.heap.size+2,0,none⟩ (.bool (decide (lo.num<0)))).setCell ⟨w.heap.size+2,1,none⟩ (.slice C5 (len lo.num.natAbs) j5)).setCell ⟨w.heap.size+2,2,none⟩ (.slice C6 (len lo.den) j6)).setCell ⟨w.heap.size+2,3,none⟩ (.bool (decide (hi.num<0)))).setCell ⟨w.heap.size+2,4,none⟩ (.slice C7 (len hi.num.natAbs) j7)).setCell ⟨w.heap.size+2,5,none⟩ (.slice C8 (len hi.den) j8)).setCell ⟨w.heap.size+2,6,none⟩ (.bool (decide (r.num<0)))).setCell ⟨w.heap.size+2,7,none⟩ (.slice C11 (len r.num.natAbs) j11)).setCell ⟨w.heap.size+2,8,none⟩ (.slice C12 (len r.den) j12)))
 have hse8:w8.heap.size=w7.heap.size:=by rw [hw];simp
 obtain ⟨E,OT,LV,BL⟩:=Fs' DBq14 hw
 rw [←hw]
 clear hw
 have L8:=hid E
 have FB8:=hid (BL _ _ (by omega) FB.out)
 have LKR18:=hid (OT _ _ (by omega) (Ac' L7.out (Below.refl _ w7)))
 have KVbx8:=hid (LV.box KVbx7.out)
 have KVrb8:=hid (LV.rbox KVrb7.out)
 have KVer8:=hid (LV.num KVer7.out)
 have KVrr8:=hid (LV.rat KVrr7.out)
 have s0_8:w8.cell? ⟨w.heap.size,0,none⟩=w3.cell? ⟨w.heap.size,0,none⟩:=(Aa' OT (by omega) (ltl hT hz8)).trans s0_7
 have s1_8:w8.cell? ⟨w.heap.size,1,none⟩=w3.cell? ⟨w.heap.size,1,none⟩:=(Aa' OT (by omega) (ltl hT hz8)).trans s1_7
 have s2_8:w8.cell? ⟨w.heap.size,2,none⟩=w3.cell? ⟨w.heap.size,2,none⟩:=(Aa' OT (by omega) (ltl hT hz8)).trans s2_7
 have s3_8:w8.cell? ⟨w.heap.size,3,none⟩=w3.cell? ⟨w.heap.size,3,none⟩:=(Aa' OT (by omega) (ltl hT hz8)).trans s3_7
 have s4_8:w8.cell? ⟨w.heap.size,4,none⟩=w3.cell? ⟨w.heap.size,4,none⟩:=(Aa' OT (by omega) (ltl hT hz8)).trans s4_7
 have s5_8:w8.cell? ⟨w.heap.size,5,none⟩=w3.cell? ⟨w.heap.size,5,none⟩:=(Aa' OT (by omega) (ltl hT hz8)).trans s5_7
 have s6_8:w8.cell? ⟨w2.heap.size,0,none⟩=w3.cell? ⟨w2.heap.size,0,none⟩:=(Aa' OT (by omega) (ltl hbxl hz8)).trans s6_7
 have s7_8:w8.cell? ⟨w2.heap.size,1,none⟩=w3.cell? ⟨w2.heap.size,1,none⟩:=(Aa' OT (by omega) (ltl hbxl hz8)).trans s7_7
 have s8_8:w8.cell? ⟨w2.heap.size,2,none⟩=w3.cell? ⟨w2.heap.size,2,none⟩:=(Aa' OT (by omega) (ltl hbxl hz8)).trans s8_7
 have s9_8:w8.cell? ⟨w2.heap.size,3,none⟩=w3.cell? ⟨w2.heap.size,3,none⟩:=(Aa' OT (by omega) (ltl hbxl hz8)).trans s9_7
 have s10_8:w8.cell? ⟨w2.heap.size,4,none⟩=w3.cell? ⟨w2.heap.size,4,none⟩:=(Aa' OT (by omega) (ltl hbxl hz8)).trans s10_7
 have s11_8:w8.cell? ⟨w2.heap.size,5,none⟩=w3.cell? ⟨w2.heap.size,5,none⟩:=(Aa' OT (by omega) (ltl hbxl hz8)).trans s11_7
 have s12_8:w8.cell? ⟨w2.heap.size+1,0,none⟩=w3.cell? ⟨w2.heap.size+1,0,none⟩:=(Aa' OT (by omega) (ltl hrbl hz8)).trans s12_7
 have s13_8:w8.cell? ⟨w2.heap.size+1,1,none⟩=w3.cell? ⟨w2.heap.size+1,1,none⟩:=(Aa' OT (by omega) (ltl hrbl hz8)).trans s13_7
 have s14_8:w8.cell? ⟨w2.heap.size+1,2,none⟩=w3.cell? ⟨w2.heap.size+1,2,none⟩:=(Aa' OT (by omega) (ltl hrbl hz8)).trans s14_7
 have s15_8:w8.cell? ⟨w2.heap.size+1,3,none⟩=w3.cell? ⟨w2.heap.size+1,3,none⟩:=(Aa' OT (by omega) (ltl hrbl hz8)).trans s15_7
 have s16_8:w8.cell? ⟨w2.heap.size+1,4,none⟩=w3.cell? ⟨w2.heap.size+1,4,none⟩:=(Aa' OT (by omega) (ltl hrbl hz8)).trans s16_7
 have s17_8:w8.cell? ⟨w2.heap.size+1,5,none⟩=w3.cell? ⟨w2.heap.size+1,5,none⟩:=(Aa' OT (by omega) (ltl hrbl hz8)).trans s17_7
 refine hK.out _ _ ?_ (fun hHeld2=>?_)
 · (try dsimp only)
   exact ⟨s0_8,s1_8,s2_8,s3_8,s4_8,s5_8,s6_8,s7_8,s8_8,s9_8,s10_8,s11_8,s12_8,s13_8,s14_8,s15_8,s16_8,s17_8⟩
 clear hK K hHeld  OT LV BL FV FB E DBq14
 try simp only [Act.put,lt,ly,lu]
 have hHeld:=hHeld2
 clear hHeld2
 refine wpAnyH_done (by kernel_rfl) ?_ _
 clear hHeld
 have HBX:=hid KVbx8.out
 have HRB:=hid KVrb8.out
 have HER:=hid KVer8.out
 have HRR:=hid KVrr8.out
 have FB:=hid FB8.out
 obtain ⟨r0,r1,r2,r3,r4,r5,r6,r7,r8⟩:=CJ' LKR18.out
 obtain ⟨q0,q1,q2,q3,q4,q5,q6,q7,q8⟩:=CJ' L8.out
 go_wp2_with fail
 refine bP (v:=.tuple #[.agg #[.bool (decide (lo.num<0)),.slice C1 (Vx.len lo.num.natAbs) j1,.slice C2 (Vx.len (below lo.den)) j2,.bool (decide (hi.num<0)),.slice C3 (Vx.len hi.num.natAbs) j3,.slice C4 (Vx.len (below hi.den)) j4,.bool (decide (r.num<0)),.slice C9 (Vx.len r.num.natAbs) j9,.slice C10 (Vx.len (below r.den)) j10],.agg #[.bool (decide (lo.num<0)),.slice C5 (len lo.num.natAbs) j5,.slice C6 (len lo.den) j6,.bool (decide (hi.num<0)),.slice C7 (len hi.num.natAbs) j7,.slice C8 (len hi.den) j8,.bool (decide (r.num<0)),.slice C11 (len r.num.natAbs) j11,.slice C12 (len r.den) j12]]) ?_ rfl ⟨_,_,rfl,⟨_,_,_,_,_,_,_,_,_,_,_,_,rfl,HBX.out,HER.out⟩,⟨_,_,_,_,_,_,_,_,_,_,_,_,rfl,HRB.out,HRR.out⟩,FB.out⟩
 simp [results,Tryz.results33,go_sem,r0,r1,r2,r3,r4,r5,r6,r7,r8,q0,q1,q2,q3,q4,q5,q6,q7,q8]
def AJ (s a:Rat) (k:Nat):Rat:=s*(1 - a)^k
theorem DS' (s a:Rat) (k:Nat):AJ s a k*(1 - a)=AJ s a (k+1):=by unfold AJ;rw [Rat.pow_succ,Rat.mul_assoc]
theorem GA' (s a:Rat) (k:Nat):Ab' (AJ s a k)≤Ab' s+(Ab' a+4)*k+1:=by
 induction k with
 | zero=>unfold AJ;rw [Rat.pow_zero,Rat.mul_one];omega
 | succ k ih =>
   rw [←DS']
   have h1:=Vx.A9 (AJ s a k) (1 - a)
   have h2:=Vx.AF' 1 a
   have h3:Ab' 1≤3:=by decide
   rw [Nat.mul_succ]
   omega
def FU (w:World) (s a t:Rat) (e:Ending) (w':World):Prop :=
  ((∃ k:Nat,k≤300∧e=.returned (.tuple #[.int .i64 ((k:Nat):Int),.int .i64 0])∧AJ s a k≤t∧∀ j,j<k→t<AJ s a j)∨(e=.returned (.tuple #[.int .i64 0,.int .i64 40])∧∀ j,j≤300→t<AJ s a j))∧Below w.heap.size w w'
def Se (w:World) (op ot:Obj) (s a t:Rat) (B k:Nat) (wr:World):Prop :=
  wr.heap[w.heap.size]?=some op∧wr.heap[w.heap.size+2]?=some ot∧(∃ A1 c1 B1 d1,wr.heap[B]?=some (.cells #[.bool (decide ((AJ s a k).num<0)),.slice A1 (Vx.len (AJ s a k).num.natAbs) c1,.slice B1 (Vx.len (below (AJ s a k).den)) d1] 32 (0,0))∧Ad' wr (.agg #[.bool (decide ((AJ s a k).num<0)),.slice A1 (Vx.len (AJ s a k).num.natAbs) c1,.slice B1 (Vx.len (below (AJ s a k).den)) d1]) (AJ s a k))∧(∀ j,j<k→t<AJ s a j)∧Below w.heap.size w wr
theorem EX {w:World} {v vs vt:Value} {a b r s t:Rat} (hp:AQ' w v a b r) (hs:Ad' w vs s) (ht:Ad' w vt t) (hg:Bz' a b r) (h0:0≤s) (h1:0≤t) (sa:Ab' a≤100000) (sb:Ab' b≤100000) (ss:Ab' s≤1000000) (st:Ab' t≤1000000) :
   Calls Tryz.prog 35 #[v,vs,vt] w (FU w s a t):=by
 have d1:decide (s.num.sign<0)=false:=dF_ (Int.not_lt.2 (Int.sign_nonneg_iff.2 (Rat.num_nonneg.2 h0)))
 have d2:decide (t.num.sign<0)=false:=dF_ (Int.not_lt.2 (Int.sign_nonneg_iff.2 (Rat.num_nonneg.2 h1)))
 obtain ⟨c1,ec1⟩:=eY (s.num.sign:Int)
 obtain ⟨c2,ec2⟩:=eY (t.num.sign:Int)
 rw [ec1] at d1
 rw [ec2] at d2
 have ks:Ab' s≤536870912:=by omega
 have kt:Ab' t≤536870912:=by omega
 replace ec1:=hid ec1
 replace ec2:=hid ec2
 replace ks:=hid ks
 replace kt:=hid kt
 replace ss:=hid ss
 replace st:=hid st
 replace sa:=hid sa
 replace sb:=hid sb
 replace hg:=hid hg
 replace h0:=hid h0
 replace h1:=hid h1
 obtain ⟨C1,j1,C2,j2,C3,j3,C4,j4,C5,j5,C6,j6,rfl,hpg,hpe⟩:=id hp.opened
 replace hp:=hid hp
 replace hpg:=hid hpg
 replace hpe:=hid hpe
 obtain ⟨C7,j7,C8,j8,rfl,-,-⟩:=id hs.opened
 replace hs:=hid hs
 obtain ⟨C9,j9,C10,j10,rfl,-,-⟩:=id ht.opened
 replace ht:=hid ht
 obtain ⟨w1,hw1⟩:=eX ((((w.alloc (.cells #[.bool (decide (a.num<0)),.slice C1 (Vx.len a.num.natAbs) j1,.slice C2 (Vx.len (below a.den)) j2,.bool (decide (b.num<0)),.slice C3 (Vx.len b.num.natAbs) j3,.slice C4 (Vx.len (below b.den)) j4,.bool (decide (r.num<0)),.slice C5 (Vx.len r.num.natAbs) j5,.slice C6 (Vx.len (below r.den)) j6] 71)).alloc (.cells #[.bool (decide (s.num<0)),.slice C7 (Vx.len s.num.natAbs) j7,.slice C8 (Vx.len (below s.den)) j8] 32)).alloc (.cells #[.bool (decide (t.num<0)),.slice C9 (Vx.len t.num.natAbs) j9,.slice C10 (Vx.len (below t.den)) j10] 32)))
 obtain ⟨b1,g1,g2,g3⟩:=AD hw1
 replace g1:=hid g1
 replace g2:=hid g2
 replace g3:=hid g3
 replace b1:=hid b1
 go_enter Tryz.func35,Tryz.ntmps35
 go_upto_region 1 with fail
 rw [←hw1]
 clear hw1
 have hg:w1.heap[w.heap.size]?=some (.cells #[.bool (decide (a.num<0)),.slice C1 (Vx.len a.num.natAbs) j1,.slice C2 (Vx.len (below a.den)) j2,.bool (decide (b.num<0)),.slice C3 (Vx.len b.num.natAbs) j3,.slice C4 (Vx.len (below b.den)) j4,.bool (decide (r.num<0)),.slice C5 (Vx.len r.num.natAbs) j5,.slice C6 (Vx.len (below r.den)) j6] 71 (0,0)):=((Below.refl _ w1).block _ (gE.1 g1.out).1).trans g1.out
 have z_p_0:w1.cell? ⟨w.heap.size,0,none⟩=some (.bool (decide (a.num<0))):=cR _ _ _ _ _ _ hg
 have z_p_1:w1.cell? ⟨w.heap.size,1,none⟩=some (.slice C1 (Vx.len a.num.natAbs) j1):=cR _ _ _ _ _ _ hg
 have z_p_2:w1.cell? ⟨w.heap.size,2,none⟩=some (.slice C2 (Vx.len (below a.den)) j2):=cR _ _ _ _ _ _ hg
 have z_p_3:w1.cell? ⟨w.heap.size,3,none⟩=some (.bool (decide (b.num<0))):=cR _ _ _ _ _ _ hg
 have z_p_4:w1.cell? ⟨w.heap.size,4,none⟩=some (.slice C3 (Vx.len b.num.natAbs) j3):=cR _ _ _ _ _ _ hg
 have z_p_5:w1.cell? ⟨w.heap.size,5,none⟩=some (.slice C4 (Vx.len (below b.den)) j4):=cR _ _ _ _ _ _ hg
 have z_p_6:w1.cell? ⟨w.heap.size,6,none⟩=some (.bool (decide (r.num<0))):=cR _ _ _ _ _ _ hg
 have z_p_7:w1.cell? ⟨w.heap.size,7,none⟩=some (.slice C5 (Vx.len r.num.natAbs) j5):=cR _ _ _ _ _ _ hg
 have z_p_8:w1.cell? ⟨w.heap.size,8,none⟩=some (.slice C6 (Vx.len (below r.den)) j6):=cR _ _ _ _ _ _ hg
 clear hg
 have HX:=hid (CI' (hp.out.keep b1.out) hg.out (nT sa.out (by omega)) (nT sb.out (by omega)))
 go_wp2_with fail
 refine (HX.out).mono ?_
 rintro e w2 ⟨rfl,b2⟩
 replace b2:=hid b2
 clear HX
 obtain ⟨z_s_0,z_s_1,z_s_2⟩:=Ae (Ac' g2.out b2.out)
 have y0_2:=hid (bS b1.out b2.out)
 have HX:=hid (BQ' ec1.out (hs.out.keep y0_2.out))
 go_wp2_with fail
 refine (HX.out).mono ?_
 rintro e w3 ⟨rfl,b3⟩
 replace b3:=hid b3
 clear HX
 have y1_3:=hid (bS b2.out b3.out)
 obtain ⟨z_t_0,z_t_1,z_t_2⟩:=Ae (Ac' g3.out y1_3.out)
 have y0_3:=hid (bS y0_2.out b3.out)
 have HX:=hid (BQ' ec2.out (ht.out.keep y0_3.out))
 go_wp2_with fail
 refine (HX.out).mono ?_
 rintro e w4 ⟨rfl,b4⟩
 replace b4:=hid b4
 clear HX
 have y1_4:=hid (bS y1_3.out b4.out)
 obtain ⟨z_s_0,z_s_1,z_s_2⟩:=Ae (Ac' g2.out y1_4.out)
 go_upto_region 7 with fail
 obtain ⟨w5,hw5⟩:=eX (w4.alloc (.cells #[.bool (decide (s.num<0)),.slice C7 (Vx.len s.num.natAbs) j7,.slice C8 (Vx.len (below s.den)) j8] 32))
 have b5:=hid (Ar hw5)
 have L5:=hid (At' hw5)
 rw [←hw5]
 clear hw5
 have y1_5:=hid (bS y1_4.out b5.out)
 have y0_5:=hid (bS (bS y0_3.out b4.out) b5.out)
 obtain ⟨B,hB⟩:=eY w4.heap.size
 have hBlt:w.heap.size+2<B:=by rw [←hB];exact Af' (Ac' g3.out (bS (bS b2.out b3.out) b4.out))
 have e0:AJ s a 0=s:=by unfold AJ;rw [Rat.pow_zero,Rat.mul_one]
 have LB:=L5.out
 rw [hB] at LB ⊢
 have HE:Hid (Se w (.cells #[.bool (decide (a.num<0)),.slice C1 (Vx.len a.num.natAbs) j1,.slice C2 (Vx.len (below a.den)) j2,.bool (decide (b.num<0)),.slice C3 (Vx.len b.num.natAbs) j3,.slice C4 (Vx.len (below b.den)) j4,.bool (decide (r.num<0)),.slice C5 (Vx.len r.num.natAbs) j5,.slice C6 (Vx.len (below r.den)) j6] 71 (0,0)) (.cells #[.bool (decide (t.num<0)),.slice C9 (Vx.len t.num.natAbs) j9,.slice C10 (Vx.len (below t.den)) j10] 32 (0,0)) s a t B 0 w5):=hid ⟨Ac' g1.out y1_5.out,Ac' g3.out y1_5.out,⟨C7,j7,C8,j8,by rw [e0];exact LB,by rw [e0];exact (hs.out.keep y0_5.out)⟩,fun j hj=>absurd hj (Nat.not_lt_zero _),y0_5.out⟩
 clear LB hB e0 L5 g1 g2 g3 hs b1 b2 b3 b4 b5
 go_wp2_with fail
 go_loopw [25] (fun iv wr=>∃ k:Nat,k≤301∧iv=.int .i64 ((k:Nat):Int)∧Hid (Se w (.cells #[.bool (decide (a.num<0)),.slice C1 (Vx.len a.num.natAbs) j1,.slice C2 (Vx.len (below a.den)) j2,.bool (decide (b.num<0)),.slice C3 (Vx.len b.num.natAbs) j3,.slice C4 (Vx.len (below b.den)) j4,.bool (decide (r.num<0)),.slice C5 (Vx.len r.num.natAbs) j5,.slice C6 (Vx.len (below r.den)) j6] 71 (0,0)) (.cells #[.bool (decide (t.num<0)),.slice C9 (Vx.len t.num.natAbs) j9,.slice C10 (Vx.len (below t.den)) j10] 32 (0,0)) s a t B k wr)) (fun iv _=>301 - (intOf iv).toNat)
 case atStart=>exact ⟨0,Nat.zero_le _,rfl,HE⟩
 case round =>
   obtain ⟨k,hk,rfl,hrel⟩:=hrel
   clear HE
   rcases Nat.lt_or_ge k 301 with hkn | hkn
   · have hin:decide (((k:Nat):Int)<301)=true:=dT_ (by omega)
     have hin2:((k:Nat):Int)<301:=by omega
     obtain ⟨gp,gt,⟨A1,n1,B1,m1,gl,hl⟩,hall,HB⟩:=hrel.out
     obtain ⟨q,eq⟩:=eY (AJ s a k)
     have sq:Ab' q≤536870912:=by
       rw [←eq]
       have h2:=GA' s a k
       have h3:(Ab' a+4)*k≤(Ab' a+4)*301:=mL _ hk
       have h4:=sa.out
       have h5:=ss.out
       omega
     rw [eq] at gl hl
     have hwk:IntKind.i64.wrap (((k:Nat):Int)+1)=((k:Nat):Int)+1:=by
       unfold IntKind.wrap
       simp [IntKind.bits,IntKind.signed]
       omega
     obtain ⟨cc,hcc⟩:=eY (cmpQ q t:Int)
     obtain ⟨y0,y1,y2⟩:=Ae gl
     obtain ⟨z0,z1,z2⟩:=Ae gt
     have HC:=hid (Ba' hcc hl (ht.out.keep HB) sq kt.out)
     have hBr:=Af' gl
     replace gp:=hid gp
     replace gt:=hid gt
     replace gl:=hid gl
     replace hl:=hid hl
     replace hall:=hid hall
     replace HB:=hid HB
     replace eq:=hid eq
     replace sq:=hid sq
     replace hcc:=hid hcc
     clear hrel
     rcases Decidable.em (q≤t) with hqt | hqt
     · have dc:decide (cc≤0)=true:=dT_ (by rw [←hcc.out];exact Int.not_lt.1 (CH' hqt))
       have FIN:Hid (AJ s a k≤t∧∀ j,j<k→t<AJ s a j):=hid ⟨by rw [eq.out];exact hqt,hall.out⟩
       replace hqt:=hid hqt
       clear hall
       go_wp2_with fail
       refine (HC.out).mono ?_
       rintro e w91 ⟨rfl,b91⟩
       have FB:=hid (bS HB.out b91)
       clear HC b91
       go_wp2_with fail
       go_ret2
       exact ⟨Or.inl ⟨k,by omega,rfl,FIN.out.1,FIN.out.2⟩,FB.out⟩
     · have dc:decide (cc≤0)=false:=dF_ (by rw [←hcc.out];exact Int.not_le.2 (D0' hqt))
       have hall2:Hid (∀ j,j<k+1→t<AJ s a j):=hid (fun j hj=>by
         rcases Nat.lt_or_ge j k with h | h
         · exact hall.out j h
         · obtain rfl:j=k:=by omega
           rw [eq.out];exact Rat.not_le.1 hqt)
       replace hqt:=hid hqt
       obtain ⟨d,ed⟩:=eY (1 - a:Rat)
       obtain ⟨m,em⟩:=eY (q*d:Rat)
       have es:Hid (AJ s a (k+1)=m):=hid (by rw [←DS',eq.out,ed];exact em)
       have kd:Ab' d≤536870912:=by rw [←ed];have h2:=Vx.AF' 1 a;have h3:Ab' 1≤3:=(by decide);have h4:=sa.out;omega
       replace kd:=hid kd
       replace ed:=hid ed
       replace em:=hid em
       clear hall
       go_wp2_with fail
       refine (HC.out).mono ?_
       rintro e w91 ⟨rfl,b91⟩
       replace b91:=hid b91
       clear HC y0 y1 y2 z0 z1 z2
       have gl9:=hid (Ac' gl.out b91.out)
       have gp9:=hid (Ac' gp.out b91.out)
       have hBr9:=Af' gl9.out
       have hPr9:=Af' gp9.out
       obtain ⟨y0,y1,y2⟩:=Ae gl9.out
       have p0:w91.cell? ⟨w.heap.size,0,none⟩=some (.bool (decide (a.num<0))):=cR _ _ _ _ _ _ gp9.out
       have p1:w91.cell? ⟨w.heap.size,1,none⟩=some (.slice C1 (Vx.len a.num.natAbs) j1):=cR _ _ _ _ _ _ gp9.out
       have p2:w91.cell? ⟨w.heap.size,2,none⟩=some (.slice C2 (Vx.len (below a.den)) j2):=cR _ _ _ _ _ _ gp9.out
       have p3:w91.cell? ⟨w.heap.size,3,none⟩=some (.bool (decide (b.num<0))):=cR _ _ _ _ _ _ gp9.out
       have p4:w91.cell? ⟨w.heap.size,4,none⟩=some (.slice C3 (Vx.len b.num.natAbs) j3):=cR _ _ _ _ _ _ gp9.out
       have p5:w91.cell? ⟨w.heap.size,5,none⟩=some (.slice C4 (Vx.len (below b.den)) j4):=cR _ _ _ _ _ _ gp9.out
       have p6:w91.cell? ⟨w.heap.size,6,none⟩=some (.bool (decide (r.num<0))):=cR _ _ _ _ _ _ gp9.out
       have p7:w91.cell? ⟨w.heap.size,7,none⟩=some (.slice C5 (Vx.len r.num.natAbs) j5):=cR _ _ _ _ _ _ gp9.out
       have p8:w91.cell? ⟨w.heap.size,8,none⟩=some (.slice C6 (Vx.len (below r.den)) j6):=cR _ _ _ _ _ _ gp9.out
       go_upto_region 12 with fail
       go_wp2_with fail
       refine Dv (s:=4) (S:=(fun w'=>(w'.cell? ⟨B,0,none⟩=w91.cell? ⟨B,0,none⟩∧w'.cell? ⟨B,1,none⟩=w91.cell? ⟨B,1,none⟩∧w'.cell? ⟨B,2,none⟩=w91.cell? ⟨B,2,none⟩∧w'.cell? ⟨w.heap.size,0,none⟩=w91.cell? ⟨w.heap.size,0,none⟩∧w'.cell? ⟨w.heap.size,1,none⟩=w91.cell? ⟨w.heap.size,1,none⟩∧w'.cell? ⟨w.heap.size,2,none⟩=w91.cell? ⟨w.heap.size,2,none⟩∧w'.cell? ⟨w.heap.size,3,none⟩=w91.cell? ⟨w.heap.size,3,none⟩∧w'.cell? ⟨w.heap.size,4,none⟩=w91.cell? ⟨w.heap.size,4,none⟩∧w'.cell? ⟨w.heap.size,5,none⟩=w91.cell? ⟨w.heap.size,5,none⟩∧w'.cell? ⟨w.heap.size,6,none⟩=w91.cell? ⟨w.heap.size,6,none⟩∧w'.cell? ⟨w.heap.size,7,none⟩=w91.cell? ⟨w.heap.size,7,none⟩∧w'.cell? ⟨w.heap.size,8,none⟩=w91.cell? ⟨w.heap.size,8,none⟩))) (by kernel_rfl) (by rfl) (by rfl) (by kernel_rfl) ?_
       simp only [De',lt,ly,lu]
       have hHeld:(fun w'=>(w'.cell? ⟨B,0,none⟩=w91.cell? ⟨B,0,none⟩∧w'.cell? ⟨B,1,none⟩=w91.cell? ⟨B,1,none⟩∧w'.cell? ⟨B,2,none⟩=w91.cell? ⟨B,2,none⟩∧w'.cell? ⟨w.heap.size,0,none⟩=w91.cell? ⟨w.heap.size,0,none⟩∧w'.cell? ⟨w.heap.size,1,none⟩=w91.cell? ⟨w.heap.size,1,none⟩∧w'.cell? ⟨w.heap.size,2,none⟩=w91.cell? ⟨w.heap.size,2,none⟩∧w'.cell? ⟨w.heap.size,3,none⟩=w91.cell? ⟨w.heap.size,3,none⟩∧w'.cell? ⟨w.heap.size,4,none⟩=w91.cell? ⟨w.heap.size,4,none⟩∧w'.cell? ⟨w.heap.size,5,none⟩=w91.cell? ⟨w.heap.size,5,none⟩∧w'.cell? ⟨w.heap.size,6,none⟩=w91.cell? ⟨w.heap.size,6,none⟩∧w'.cell? ⟨w.heap.size,7,none⟩=w91.cell? ⟨w.heap.size,7,none⟩∧w'.cell? ⟨w.heap.size,8,none⟩=w91.cell? ⟨w.heap.size,8,none⟩)) w91:=⟨rfl,rfl,rfl,rfl,rfl,rfl,rfl,rfl,rfl,rfl,rfl,rfl⟩
       obtain ⟨w92,hw92⟩:=eX w91.drew
       have b92:Hid (Below w91.heap.size w91 w92):=hid (by rw [hw92];exact ⟨rfl,rfl,rfl,nL _,fun _ _=>rfl⟩)
       replace hHeld:(fun w'=>(w'.cell? ⟨B,0,none⟩=w91.cell? ⟨B,0,none⟩∧w'.cell? ⟨B,1,none⟩=w91.cell? ⟨B,1,none⟩∧w'.cell? ⟨B,2,none⟩=w91.cell? ⟨B,2,none⟩∧w'.cell? ⟨w.heap.size,0,none⟩=w91.cell? ⟨w.heap.size,0,none⟩∧w'.cell? ⟨w.heap.size,1,none⟩=w91.cell? ⟨w.heap.size,1,none⟩∧w'.cell? ⟨w.heap.size,2,none⟩=w91.cell? ⟨w.heap.size,2,none⟩∧w'.cell? ⟨w.heap.size,3,none⟩=w91.cell? ⟨w.heap.size,3,none⟩∧w'.cell? ⟨w.heap.size,4,none⟩=w91.cell? ⟨w.heap.size,4,none⟩∧w'.cell? ⟨w.heap.size,5,none⟩=w91.cell? ⟨w.heap.size,5,none⟩∧w'.cell? ⟨w.heap.size,6,none⟩=w91.cell? ⟨w.heap.size,6,none⟩∧w'.cell? ⟨w.heap.size,7,none⟩=w91.cell? ⟨w.heap.size,7,none⟩∧w'.cell? ⟨w.heap.size,8,none⟩=w91.cell? ⟨w.heap.size,8,none⟩)) w92:=by rw [hw92];exact hHeld
       rw [←hw92]
       clear hw92
       refine tk (i:=0) (h:=?_)
       try simp only [Act.put,lt,ly,lu]
       refine tk (i:=1) (h:=?_)
       try simp only [Act.put,lt,ly,lu]
       have y90_92:=hid (bS b91.out b92.out)
       refine rd (i:=2) (h:=fun K hK=>?_);go_simp;go_at_call 62
       refine ((show Calls _ _ _ _ (Ao' _ d) from ed.out ▸ Ff (hp.out.keep (bS HB.out y90_92.out)) (nT sa.out (by omega)))).mono ?_
       rintro e w93 ⟨v93,rfl,hv93,b93⟩
       obtain ⟨C92,j92,C93,j93,rfl,-,-⟩:=id hv93.opened
       replace hv93:=hid hv93
       replace b93:=hid b93
       have y91_93:=hid (bS b92.out b93.out)
       have hS:=y91_93.out
       clear hHeld
       refine hK.out _ _ ?_ (fun hHeld=>?_)
       · (try dsimp only)
         exact ⟨hS.cell (p:=⟨B,0,none⟩) hBr9,hS.cell (p:=⟨B,1,none⟩) hBr9,hS.cell (p:=⟨B,2,none⟩) hBr9,hS.cell (p:=⟨w.heap.size,0,none⟩) hPr9,hS.cell (p:=⟨w.heap.size,1,none⟩) hPr9,hS.cell (p:=⟨w.heap.size,2,none⟩) hPr9,hS.cell (p:=⟨w.heap.size,3,none⟩) hPr9,hS.cell (p:=⟨w.heap.size,4,none⟩) hPr9,hS.cell (p:=⟨w.heap.size,5,none⟩) hPr9,hS.cell (p:=⟨w.heap.size,6,none⟩) hPr9,hS.cell (p:=⟨w.heap.size,7,none⟩) hPr9,hS.cell (p:=⟨w.heap.size,8,none⟩) hPr9⟩
       clear hK K hS;try simp only [Act.put,lt,ly,lu]
       have y90_93:=hid (bS y90_92.out b93.out)
       refine rd (i:=3) (h:=fun K hK=>?_);go_simp;go_at_call 13
       refine (B7' em.out (hl.out.keep y90_93.out) hv93.out sq.out kd.out).mono ?_
       rintro e w94 ⟨v94,rfl,hv94,b94⟩
       obtain ⟨C94,j94,C95,j95,rfl,-,-⟩:=id hv94.opened
       replace hv94:=hid hv94
       replace b94:=hid b94
       have y91_94:=hid (bS y91_93.out b94.out)
       have hS:=y91_94.out
       clear hHeld
       refine hK.out _ _ ?_ (fun hHeld=>?_)
       · (try dsimp only)
         exact ⟨hS.cell (p:=⟨B,0,none⟩) hBr9,hS.cell (p:=⟨B,1,none⟩) hBr9,hS.cell (p:=⟨B,2,none⟩) hBr9,hS.cell (p:=⟨w.heap.size,0,none⟩) hPr9,hS.cell (p:=⟨w.heap.size,1,none⟩) hPr9,hS.cell (p:=⟨w.heap.size,2,none⟩) hPr9,hS.cell (p:=⟨w.heap.size,3,none⟩) hPr9,hS.cell (p:=⟨w.heap.size,4,none⟩) hPr9,hS.cell (p:=⟨w.heap.size,5,none⟩) hPr9,hS.cell (p:=⟨w.heap.size,6,none⟩) hPr9,hS.cell (p:=⟨w.heap.size,7,none⟩) hPr9,hS.cell (p:=⟨w.heap.size,8,none⟩) hPr9⟩
       clear hK K hS;try simp only [Act.put,lt,ly,lu]
       refine tk (i:=4) (h:=?_)
       try simp only [Act.put,lt,ly,lu]
       refine wpAnyH_done (by kernel_rfl) ?_ _
       clear hHeld y0 y1 y2 p0 p1 p2 p3 p4 p5 p6 p7 p8
       have y90_94:=hid (bS y90_93.out b94.out)
       have DB:=Ac' gl.out y90_94.out
       have q0:=cR _ _ 0 _ _ _ DB
       have F0:=fR w94 B 0 _ _ DB
       have q1:=cR _ _ 1 _ _ _ DB
       have F1:=fR w94 B 1 _ _ DB
       have q2:=cR _ _ 2 _ _ _ DB
       have F2:=fR w94 B 2 _ _ DB
       simp only [lg,lz,ls] at q0 q1 q2
       obtain ⟨ue,hw⟩:=eX ((((w94.setCell ⟨B,0,none⟩ (.bool (decide (m.num<0)))).setCell ⟨B,1,none⟩ (.slice C94 (Vx.len m.num.natAbs) j94)).setCell ⟨B,2,none⟩ (.slice C95 (Vx.len (below m.den)) j95)))
       obtain ⟨E,OT,LV,BL⟩:=As' DB hw
       have FIN:Hid (Se w (.cells #[.bool (decide (a.num<0)),.slice C1 (Vx.len a.num.natAbs) j1,.slice C2 (Vx.len (below a.den)) j2,.bool (decide (b.num<0)),.slice C3 (Vx.len b.num.natAbs) j3,.slice C4 (Vx.len (below b.den)) j4,.bool (decide (r.num<0)),.slice C5 (Vx.len r.num.natAbs) j5,.slice C6 (Vx.len (below r.den)) j6] 71 (0,0)) (.cells #[.bool (decide (t.num<0)),.slice C9 (Vx.len t.num.natAbs) j9,.slice C10 (Vx.len (below t.den)) j10] 32 (0,0)) s a t B (k+1) ue):=hid ⟨OT _ _ (by omega) (Ac' gp.out y90_94.out),OT _ _ (by omega) (Ac' gt.out y90_94.out),⟨C94,j94,C95,j95,by rw [es.out];exact E,by rw [es.out];exact LV.num hv94.out⟩,hall2.out,BL _ _ (by omega) (bS HB.out y90_94.out)⟩
       refine Fr (by rfl) (by rfl) ?_
       clear DB E OT LV BL
       go_simp
       rw [←hw]
       clear hw q0 q1 q2 F0 F1 F2
       go_wp2_with fail
       go_roundw
       case rel=>exact ⟨k+1,by omega,by go_num,FIN⟩
       case measure=>simp [intOf];omega
   · obtain rfl:k=301:=Nat.le_antisymm hk hkn
     have hin:decide (((301:Nat):Int)<301)=false:=by decide
     have FIN:=hid hrel.out.2.2.2
     clear hrel
     go_wp2_with fail
     go_ret2
     exact ⟨Or.inr ⟨rfl,fun j hj=>FIN.out.1 j (by omega)⟩,FIN.out.2⟩
end Go.Proofs.YtcicfnlljdnagaaGreatDoor.Rf
