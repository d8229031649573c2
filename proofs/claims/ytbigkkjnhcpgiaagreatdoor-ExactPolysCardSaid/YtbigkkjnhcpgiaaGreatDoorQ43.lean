/-
  Contracts of the functions that the law calls, for every input (Pn Vd Ea Eb Ef BoxP).
-/
import Derived.Test.YtbigkkjnhcpgiaaGreatDoorQ00
import Derived.Test.YtbigkkjnhcpgiaaGreatDoorQ42
import Derived.Test.YtbigkkjnhcpgiaaGreatDoorQ22
import Derived.Test.YtbigkkjnhcpgiaaGreatDoorQ10
import Derived.Test.YtbigkkjnhcpgiaaGreatDoorQ38
import Derived.Test.YtbigkkjnhcpgiaaGreatDoorQ37
import Derived.Deep.LoopGhost
import Derived.Test.YtbigkkjnhcpgiaaGreatDoorQ39
import Derived.Test.YtbigkkjnhcpgiaaGreatDoorQ41
set_option linter.all false
set_option maxRecDepth 100000
set_option maxHeartbeats 40000000
namespace Go.Proofs.YtbigkkjnhcpgiaaGreatDoor.Rf
open Lib (hid)
open Go.RowKit
open Rx
open Vx (Aa' Al' Am)
open List renaming getElem?_toArray → lg, getElem?_cons_zero → lz, getElem?_cons_succ → ls, setIfInBounds_toArray → lt, set_cons_zero → ly, set_cons_succ → lu
def BT' (a b:Rat) (n k:Nat):List (Rat × Rat):=(List.range k).map fun i=>(Az a b n i,Az a b n (i+1))
theorem Dp' (a b:Rat) (n k:Nat):(BT' a b n k).length=k:=by simp [BT']
theorem Gy (a b:Rat) (n k:Nat):BT' a b n k++[(Az a b n k,Az a b n (k+1))]=BT' a b n (k+1):=by simp [BT',List.range_succ]
theorem EF {a b:Rat} {n k i:Nat} (h:i<k):(BT' a b n k)[i]?=some (Az a b n i,Az a b n (i+1)):=by simp [BT',h]
def Ps (w:World) (bs:Nat) (P1 P2 P3 P4 S1 S2:Option Addr) (r1 r2 r3 r4 i1 i2:Nat) (a b s:Rat) (n k:Nat) (ov:Value) (wr:World):Prop :=
  BT Aw 41 (w.heap.size+1) wr ov (BT' a b n k)∧Below w.heap.size w wr∧wr.heap[w.heap.size]?=some (.cells #[.bool (decide (a.num<0)),.slice P1 (len a.num.natAbs) r1,.slice P2 (len a.den) r2,.bool (decide (b.num<0)),.slice P3 (len b.num.natAbs) r3,.slice P4 (len b.den) r4] 41 (0,0))∧Ah' wr (.agg #[.bool (decide (a.num<0)),.slice P1 (len a.num.natAbs) r1,.slice P2 (len a.den) r2]) a∧wr.heap[bs]?=some (.cells #[.bool (decide (s.num<0)),.slice S1 (len s.num.natAbs) i1,.slice S2 (len s.den) i2] 39 (0,0))∧Ah' wr (.agg #[.bool (decide (s.num<0)),.slice S1 (len s.num.natAbs) i1,.slice S2 (len s.den) i2]) s∧(∀ g,ov.ownBlock=some g→g≠bs)
def Hv' (w:World) (a b:Rat) (n:Nat) (e:Ending) (w':World):Prop:=∃ g cap,e=.returned (.slice (some ⟨g,0,none⟩) n cap)∧Ch w' g (BT' a b n n)∧Below w.heap.size w w'
theorem D9' {w:World} {v:Value} {a b:Rat} {n:Nat} (hb:Aw w v a b) (hn1:1≤n) (hn2:n≤256) (sa:Aa' a≤20000) (sb:Aa' b≤20000) :
   Calls Tryz.prog 10 #[v,.int .i64 ((n:Nat):Int)] w (Hv' w a b n):=by
 have hn256:((n:Nat):Int)≤256:=by omega
 have hn0:((n:Nat):Rat)≠0:=Ht (by omega)
 obtain ⟨d,ed⟩:=eY (b - a)
 obtain ⟨q,eq⟩:=eY ((((n:Nat):Int):Rat))
 obtain ⟨s,es⟩:=eY (d / q)
 have eqn:((n:Nat):Rat)=q:=by rw [←eq,Rat.intCast_natCast]
 have hs':(b - a) / ((n:Nat):Rat)=s:=by rw [ed,eqn];exact es
 have sq:Aa' q≤2:=by rw [←eq];exact Go.Proofs.YtbigkkjnhcpgiaaGreatDoor.Bn (by omega)
 have sd:Aa' d≤41000:=by rw [←ed];have:=Vx.CN b a;omega
 have ss:Aa' s≤42000:=by rw [←es];have:=Vx.Cc' d q;omega
 have hq0:q≠0:=by rw [←eqn];exact hn0
 have sa1:=hid (show Aa' a≤268435456 by omega)
 have sb1:=hid (show Aa' b≤268435456 by omega)
 have sq1:=hid (show Aa' q≤268435456 by omega)
 have sd1:=hid (show Aa' d≤268435456 by omega)
 have ss1:=hid (show Aa' s≤268435456 by omega)
 clear sq sd hn0 eqn sb
 obtain ⟨P1,r1,P2,r2,P3,r3,P4,r4,rfl,hlo,hhi⟩:=id hb.opened
 replace hlo:=hid hlo
 replace hhi:=hid hhi
 obtain ⟨w1,hw1⟩:=eX (w.alloc (.cells #[.bool (decide (a.num<0)),.slice P1 (len a.num.natAbs) r1,.slice P2 (len a.den) r2,.bool (decide (b.num<0)),.slice P3 (len b.num.natAbs) r3,.slice P4 (len b.den) r4] 41))
 have b1:=hid (AC hw1)
 have g1:=hid (AI' hw1)
 have hw1s:w.heap.size+1≤w1.heap.size:=at_lt g1.out
 replace ed:=hid ed
 replace eq:=hid eq
 replace es:=hid es
 replace hs':=hid hs'
 replace hq0:=hid hq0
 clear hb
 go_enter Tryz.func10,Tryz.ntmps10
 go_upto_region 1 with fail
 rw [←hw1]
 clear hw1
 go_upto_region 2 with fail
 obtain ⟨w2,hw2⟩:=eX (w1.alloc (.cells #[] 41))
 have b2:=hid (AC hw2)
 have HR0:BT Aw 41 (w.heap.size+1) w2 (.slice (some ⟨w1.heap.size,0,none⟩) 0 0) []:=by rw [hw2];exact Hv hw1s
 replace HR0:=hid HR0
 have o1l:w1.heap.size<w2.heap.size:=by rw [hw2,World.size_alloc];exact Nat.lt_succ_self _
 rw [←hw2]
 clear hw2
 obtain ⟨o1,ho1⟩:=eY w1.heap.size
 rw [ho1] at HR0 o1l
 rw [ho1]
 clear ho1 hw1s
 obtain ⟨z0,z1,z2,z3,z4,z5⟩:=Ae' (Ad' g1.out b2.out)
 have y0_2:=hid (bS b1.out b2.out)
 have HX:=hid (Iu ed.out (hhi.out.keep y0_2.out) (hlo.out.keep y0_2.out) sb1.out sa1.out)
 go_wp2_with fail
 refine (HX.out).mono ?_
 rintro e w3 ⟨v3,rfl,hv3,b3⟩
 obtain ⟨C41,j41,C42,j42,rfl,-,-⟩:=id hv3.opened
 replace hv3:=hid hv3
 replace b3:=hid b3
 clear HX
 clear z0 z1 z2 z3 z4 z5
 have HX:=hid (Dw (w:=w3) eq.out (by omega) (by omega))
 go_wp2_with fail
 refine (HX.out).mono ?_
 rintro e w4 ⟨v4,rfl,hv4,b4⟩
 obtain ⟨C43,j43,C44,j44,rfl,-,-⟩:=id hv4.opened
 replace hv4:=hid hv4
 replace b4:=hid b4
 clear HX
 have HX:=hid (Iu' hq0.out es.out (hv3.out.keep b4.out) hv4.out sd1.out sq1.out)
 go_wp2_with fail
 refine (HX.out).mono ?_
 rintro e w5 ⟨v5,rfl,hv5,b5⟩
 obtain ⟨C45,j45,C46,j46,rfl,-,-⟩:=id hv5.opened
 replace hv5:=hid hv5
 replace b5:=hid b5
 clear HX
 go_upto_region 3 with fail
 obtain ⟨w6,hw6⟩:=eX (w5.alloc (.cells #[.bool (decide (s.num<0)),.slice C45 (len s.num.natAbs) j45,.slice C46 (len s.den) j46] 39))
 have b6:=hid (AC hw6)
 have L6:=hid (AI' hw6)
 rw [←hw6]
 clear hw6
 have y2_6:=hid (bS (bS (bS b3.out b4.out) b5.out) b6.out)
 have y0_6:=hid (bS (bS (bS (bS y0_2.out b3.out) b4.out) b5.out) b6.out)
 have y1_6:=hid (bS (bS (bS (bS b2.out b3.out) b4.out) b5.out) b6.out)
 obtain ⟨bs,hbs⟩:=eY w5.heap.size
 have lbs:w.heap.size<bs:=by rw [←hbs];exact at_lt (Ad' g1.out (bS (bS (bS b2.out b3.out) b4.out) b5.out))
 have lo1:o1<bs:=by rw [←hbs];exact ltl o1l (bS (bS b3.out b4.out) b5.out).size
 have RS:=L6.out
 rw [hbs] at RS
 have HE:Hid (Ps w bs P1 P2 P3 P4 C45 C46 r1 r2 r3 r4 j45 j46 a b s n 0 (.slice (some ⟨o1,0,none⟩) 0 0) w6):=hid ⟨HR0.out.keep y2_6.out (fun _ _ _ h=>h.keep y2_6.out),y0_6.out,Ad' g1.out y1_6.out,(hlo.out.keep y0_6.out),RS,(hv5.out.keep b6.out),fun g hg=>by have h1:o1=g:=Option.some.inj hg;rw [←h1];exact Nat.ne_of_lt lo1⟩
 rw [hbs]
 clear hbs RS HR0 o1l lo1 L6 hv5 hv3 hv4 g1 hlo hhi b1 b2 b3 b4 b5 b6
 go_wp2_with fail
 go_loopw [5,7] (fun ov iv wr=>∃ k:Nat,k≤n∧iv=.int .i64 ((k:Nat):Int)∧Hid (Ps w bs P1 P2 P3 P4 C45 C46 r1 r2 r3 r4 j45 j46 a b s n k ov wr)) (fun _ iv _=>n - (intOf iv).toNat)
 case atStart=>exact ⟨0,Nat.zero_le _,rfl,HE⟩
 case round =>
   obtain ⟨k,hk,rfl,hrel⟩:=hrel
   clear HE
   rcases Nat.lt_or_ge k n with hkn | hkn
   · have hin:decide (k<n)=true:=dT_ hkn
     obtain ⟨HG,HB,gB,HA,gS,HS,hdis⟩:=hrel.out
     clear hrel
     obtain ⟨k0,ek0⟩:=eY ((((k:Nat):Int):Rat))
     obtain ⟨k1,ek1⟩:=eY (((((k:Nat):Int)+1:Int):Rat))
     obtain ⟨m0,em0⟩:=eY (s*k0)
     obtain ⟨m1,em1⟩:=eY (s*k1)
     obtain ⟨x,ex⟩:=eY (a+m0)
     obtain ⟨y,ey⟩:=eY (a+m1)
     have cx:Az a b n k=x:=by unfold Az;rw [hs'.out,←ex,←em0,←ek0,Rat.intCast_natCast]
     have cy:Az a b n (k+1)=y:=by unfold Az;rw [hs'.out,←ey,←em1,←ek1,←Rat.intCast_natCast];rfl
     have t0:Aa' k0≤2:=by rw [←ek0];exact Go.Proofs.YtbigkkjnhcpgiaaGreatDoor.Bn (by omega)
     have t1:Aa' k1≤2:=by rw [←ek1];exact Go.Proofs.YtbigkkjnhcpgiaaGreatDoor.Bn (i:=k+1) (by omega)
     have t2:Aa' m0≤43000:=by rw [←em0];have:=Vx.AG s k0;omega
     have t3:Aa' m1≤43000:=by rw [←em1];have:=Vx.AG s k1;omega
     have u0:=hid (show Aa' k0≤268435456 by omega)
     have u1:=hid (show Aa' k1≤268435456 by omega)
     have u2:=hid (show Aa' m0≤268435456 by omega)
     have u3:=hid (show Aa' m1≤268435456 by omega)
     have hwk:IntKind.i64.wrap (((k:Nat):Int)+1)=((k:Nat):Int)+1:=by
       unfold IntKind.wrap
       simp [IntKind.bits,IntKind.signed]
       omega
     have hBl:w.heap.size<wr.heap.size:=at_lt gB
     have hSl:bs<wr.heap.size:=at_lt gS
     clear t0 t1 t2 t3
     obtain ⟨p0,p1,p2,p3,p4,p5⟩:=Ae' gB
     clear p3 p4 p5
     obtain ⟨x0,x1,x2⟩:=Ab' gS
     replace HG:=hid HG
     replace HB:=hid HB
     replace gB:=hid gB
     replace HA:=hid HA
     replace gS:=hid gS
     replace HS:=hid HS
     replace hdis:=hid hdis
     replace ek0:=hid ek0
     replace ek1:=hid ek1
     replace em0:=hid em0
     replace em1:=hid em1
     replace ex:=hid ex
     replace ey:=hid ey
     replace cx:=hid cx
     replace cy:=hid cy
     go_upto_region 6 with fail
     go_wp2_with fail
     refine wp_region_held_drew (S:=(fun w'=>(w'.cell? ⟨w.heap.size,0,none⟩=wr.cell? ⟨w.heap.size,0,none⟩∧w'.cell? ⟨w.heap.size,1,none⟩=wr.cell? ⟨w.heap.size,1,none⟩∧w'.cell? ⟨w.heap.size,2,none⟩=wr.cell? ⟨w.heap.size,2,none⟩∧w'.cell? ⟨bs,0,none⟩=wr.cell? ⟨bs,0,none⟩∧w'.cell? ⟨bs,1,none⟩=wr.cell? ⟨bs,1,none⟩∧w'.cell? ⟨bs,2,none⟩=wr.cell? ⟨bs,2,none⟩))) (by kernel_rfl) ?_ (fun hHeld=>?_)
     · (try dsimp only)
       exact ⟨rfl,rfl,rfl,rfl,rfl,rfl⟩
     obtain ⟨w91,hw91⟩:=eX wr.drew
     have b91:Hid (Below wr.heap.size wr w91):=hid (by rw [hw91];exact ⟨rfl,rfl,rfl,nL _,fun _ _=>rfl⟩)
     rw [←hw91] at hHeld ⊢
     clear hw91
     refine tk (i:=0) (h:=?_)
     try simp only [Act.put,lt,ly,lu]
     refine tk (i:=1) (h:=?_)
     try simp only [Act.put,lt,ly,lu]
     refine tk (i:=2) (h:=?_)
     try simp only [Act.put,lt,ly,lu]
     refine tk (i:=3) (h:=?_)
     try simp only [Act.put,lt,ly,lu]
     refine tk (i:=4) (h:=?_)
     try simp only [Act.put,lt,ly,lu]
     refine tk (i:=8) (h:=?_)
     try simp only [Act.put,lt,ly,lu]
     refine tk (i:=9) (h:=?_)
     try simp only [Act.put,lt,ly,lu]
     refine tk (i:=10) (h:=?_)
     try simp only [Act.put,lt,ly,lu]
     refine tk (i:=11) (h:=?_)
     try simp only [Act.put,lt,ly,lu]
     refine tk (i:=12) (h:=?_)
     try simp only [Act.put,lt,ly,lu]
     refine rd (i:=5) (h:=fun K hK=>?_);go_simp;go_at_call 36
     refine (Dw (w:=w91) ek0.out (by omega) (by omega)).mono ?_
     rintro e w92 ⟨v92,rfl,hv92,b92⟩
     obtain ⟨C92,j92,C93,j93,rfl,-,-⟩:=id hv92.opened
     replace hv92:=hid hv92
     replace b92:=hid b92
     have y90_92:=hid (bS b91.out b92.out)
     have hS:=y90_92.out
     clear hHeld
     refine hK.out _ _ ?_ (fun hHeld=>?_)
     · (try dsimp only)
       exact ⟨hS.cell (p:=⟨w.heap.size,0,none⟩) hBl,hS.cell (p:=⟨w.heap.size,1,none⟩) hBl,hS.cell (p:=⟨w.heap.size,2,none⟩) hBl,hS.cell (p:=⟨bs,0,none⟩) hSl,hS.cell (p:=⟨bs,1,none⟩) hSl,hS.cell (p:=⟨bs,2,none⟩) hSl⟩
     clear hK K hS;try simp only [Act.put,lt,ly,lu]
     refine rd (i:=6) (h:=fun K hK=>?_);go_simp;go_at_call 38
     refine (Cf em0.out (HS.out.keep y90_92.out) hv92.out ss1.out u0.out).mono ?_
     rintro e w93 ⟨v93,rfl,hv93,b93⟩
     obtain ⟨C94,j94,C95,j95,rfl,-,-⟩:=id hv93.opened
     replace hv93:=hid hv93
     replace b93:=hid b93
     have y90_93:=hid (bS y90_92.out b93.out)
     have hS:=y90_93.out
     clear hHeld
     refine hK.out _ _ ?_ (fun hHeld=>?_)
     · (try dsimp only)
       exact ⟨hS.cell (p:=⟨w.heap.size,0,none⟩) hBl,hS.cell (p:=⟨w.heap.size,1,none⟩) hBl,hS.cell (p:=⟨w.heap.size,2,none⟩) hBl,hS.cell (p:=⟨bs,0,none⟩) hSl,hS.cell (p:=⟨bs,1,none⟩) hSl,hS.cell (p:=⟨bs,2,none⟩) hSl⟩
     clear hK K hS;try simp only [Act.put,lt,ly,lu]
     refine rd (i:=7) (h:=fun K hK=>?_);go_simp;go_at_call 37
     refine (C4' ex.out (HA.out.keep y90_93.out) hv93.out sa1.out u2.out).mono ?_
     rintro e w94 ⟨v94,rfl,hv94,b94⟩
     obtain ⟨C96,j96,C97,j97,rfl,-,-⟩:=id hv94.opened
     replace hv94:=hid hv94
     replace b94:=hid b94
     have y90_94:=hid (bS y90_93.out b94.out)
     have hS:=y90_94.out
     clear hHeld
     refine hK.out _ _ ?_ (fun hHeld=>?_)
     · (try dsimp only)
       exact ⟨hS.cell (p:=⟨w.heap.size,0,none⟩) hBl,hS.cell (p:=⟨w.heap.size,1,none⟩) hBl,hS.cell (p:=⟨w.heap.size,2,none⟩) hBl,hS.cell (p:=⟨bs,0,none⟩) hSl,hS.cell (p:=⟨bs,1,none⟩) hSl,hS.cell (p:=⟨bs,2,none⟩) hSl⟩
     clear hK K hS;try simp only [Act.put,lt,ly,lu]
     refine rd (i:=13) (h:=fun K hK=>?_);go_simp;go_at_call 36
     refine (Dw (w:=w94) ek1.out (by omega) (by omega)).mono ?_
     rintro e w95 ⟨v95,rfl,hv95,b95⟩
     obtain ⟨C98,j98,C99,j99,rfl,-,-⟩:=id hv95.opened
     replace hv95:=hid hv95
     replace b95:=hid b95
     have y90_95:=hid (bS y90_94.out b95.out)
     have hS:=y90_95.out
     clear hHeld
     refine hK.out _ _ ?_ (fun hHeld=>?_)
     · (try dsimp only)
       exact ⟨hS.cell (p:=⟨w.heap.size,0,none⟩) hBl,hS.cell (p:=⟨w.heap.size,1,none⟩) hBl,hS.cell (p:=⟨w.heap.size,2,none⟩) hBl,hS.cell (p:=⟨bs,0,none⟩) hSl,hS.cell (p:=⟨bs,1,none⟩) hSl,hS.cell (p:=⟨bs,2,none⟩) hSl⟩
     clear hK K hS;try simp only [Act.put,lt,ly,lu]
     refine rd (i:=14) (h:=fun K hK=>?_);go_simp;go_at_call 38
     refine (Cf em1.out (HS.out.keep y90_95.out) hv95.out ss1.out u1.out).mono ?_
     rintro e w96 ⟨v96,rfl,hv96,b96⟩
     obtain ⟨C100,j100,C101,j101,rfl,-,-⟩:=id hv96.opened
     replace hv96:=hid hv96
     replace b96:=hid b96
     have y90_96:=hid (bS y90_95.out b96.out)
     have hS:=y90_96.out
     clear hHeld
     refine hK.out _ _ ?_ (fun hHeld=>?_)
     · (try dsimp only)
       exact ⟨hS.cell (p:=⟨w.heap.size,0,none⟩) hBl,hS.cell (p:=⟨w.heap.size,1,none⟩) hBl,hS.cell (p:=⟨w.heap.size,2,none⟩) hBl,hS.cell (p:=⟨bs,0,none⟩) hSl,hS.cell (p:=⟨bs,1,none⟩) hSl,hS.cell (p:=⟨bs,2,none⟩) hSl⟩
     clear hK K hS;try simp only [Act.put,lt,ly,lu]
     refine rd (i:=15) (h:=fun K hK=>?_);go_simp;go_at_call 37
     refine (C4' ey.out (HA.out.keep y90_96.out) hv96.out sa1.out u3.out).mono ?_
     rintro e w97 ⟨v97,rfl,hv97,b97⟩
     obtain ⟨C102,j102,C103,j103,rfl,-,-⟩:=id hv97.opened
     replace hv97:=hid hv97
     replace b97:=hid b97
     have y90_97:=hid (bS y90_96.out b97.out)
     have hS:=y90_97.out
     clear hHeld
     refine hK.out _ _ ?_ (fun hHeld=>?_)
     · (try dsimp only)
       exact ⟨hS.cell (p:=⟨w.heap.size,0,none⟩) hBl,hS.cell (p:=⟨w.heap.size,1,none⟩) hBl,hS.cell (p:=⟨w.heap.size,2,none⟩) hBl,hS.cell (p:=⟨bs,0,none⟩) hSl,hS.cell (p:=⟨bs,1,none⟩) hSl,hS.cell (p:=⟨bs,2,none⟩) hSl⟩
     clear hK K hS;try simp only [Act.put,lt,ly,lu]
     refine tk (i:=16) (h:=?_)
     try simp only [Act.put,lt,ly,lu]
     have y94_97:=hid (bS (bS b95.out b96.out) b97.out)
     have BX:=hid (Ah'.pair (hv94.out.keep y94_97.out) hv97.out)
     refine wpAnyH_ready (rs:=[17]) (by kernel_rfl) (by simp) (AllReadyH.cons (o:=?oq7) ?eq7 ?kq7 AllReadyH.nil)
     case eq7=>simp only [lg,lz,ls];rfl
     intro K hK;go_simp
     obtain ⟨v1,hv1⟩:=eX (w97.alloc (.cells #[.bool (decide (x.num<0)),.slice C96 (len x.num.natAbs) j96,.slice C97 (len x.den) j97,.bool (decide (y.num<0)),.slice C102 (len y.num.natAbs) j102,.slice C103 (len y.den) j103] 41))
     have bv:=hid (AC hv1)
     have Lv:=hid (AI' hv1)
     rw [←hv1]
     clear hv1
     have hS:=hid (bS y90_97.out bv.out)
     clear hHeld
     refine hK.out _ _ ?_ (fun hHeld=>?_)
     · (try dsimp only)
       exact ⟨hS.out.cell (p:=⟨w.heap.size,0,none⟩) hBl,hS.out.cell (p:=⟨w.heap.size,1,none⟩) hBl,hS.out.cell (p:=⟨w.heap.size,2,none⟩) hBl,hS.out.cell (p:=⟨bs,0,none⟩) hSl,hS.out.cell (p:=⟨bs,1,none⟩) hSl,hS.out.cell (p:=⟨bs,2,none⟩) hSl⟩
     clear hK K
     try simp only [Act.put,lt,ly,lu]
     have HG2:=hid (HG.out.keep hS.out (fun _ _ _ h=>h.keep hS.out))
     have HB2:=hid (chain HB.out hS.out)
     have l112:=hid (show ((BT' a b n k).length+1)*112≤140737488355328 by rw [Dp'];omega)
     have lM:=hid (show (BT' a b n k).length+1≤maxLen by rw [Dp'];unfold maxLen;omega)
     have hsz2:=hid (show w.heap.size+1≤v1.heap.size by have:=hS.out.size;omega)
     have BX2:=hid (BX.out.keep bv.out)
     have gS2:=hid (Ad' gS.out hS.out)
     have gB2:=hid (Ad' gB.out hS.out)
     have HS2:=hid (HS.out.keep hS.out)
     have HA2:=hid (HA.out.keep hS.out)
     have hSl2:=ltl hSl hS.out.size
     have hBl2:=ltl hBl hS.out.size
     refine rd (i:=18) (h:=fun K hK=>?_)
     refine Iz' rfl (e:=41) Tryz.underlying51 IA' IA rfl HG2.out rfl Lv.out BX2.out l112.out lM.out hsz2.out ?_
     intro ov2 v2 hG2 LV GR hO
     have eB:v2.heap[w.heap.size]?=v1.heap[w.heap.size]?:=GR.block _ hBl2 (fun e=>by have:=(HG2.out.own _ e.symm).1;omega)
     have eS:v2.heap[bs]?=v1.heap[bs]?:=GR.block _ hSl2 (fun e=>hdis.out _ e.symm rfl)
     clear hHeld
     refine hK.out _ _ ?_ (fun hHeld=>?_)
     · (try dsimp only)
       exact ⟨(World.cell?_of_block eB).trans (hS.out.cell (p:=⟨w.heap.size,0,none⟩) hBl),(World.cell?_of_block eB).trans (hS.out.cell (p:=⟨w.heap.size,1,none⟩) hBl),(World.cell?_of_block eB).trans (hS.out.cell (p:=⟨w.heap.size,2,none⟩) hBl),(World.cell?_of_block eS).trans (hS.out.cell (p:=⟨bs,0,none⟩) hSl),(World.cell?_of_block eS).trans (hS.out.cell (p:=⟨bs,1,none⟩) hSl),(World.cell?_of_block eS).trans (hS.out.cell (p:=⟨bs,2,none⟩) hSl)⟩
     clear hK K
     try simp only [Act.put,lt,ly,lu]
     rw [←cx.out,←cy.out,Gy] at hG2
     have HR2:Hid (Ps w bs P1 P2 P3 P4 C45 C46 r1 r2 r3 r4 j45 j46 a b s n (k+1) ov2 v2):=hid ⟨hG2,Below.grown HB2.out GR HB2.out.size (fun j hj=>Nat.le_of_succ_le (HG2.out.own j hj).1),eB.trans gB2.out,LV.rat HA2.out,eS.trans gS2.out,LV.rat HS2.out,fun g hg=>by
       rcases hO g hg with h | h
       · exact hdis.out g h
       · rw [h];exact Nat.ne_of_gt hSl2⟩
     clear hG2 LV GR hO eB eS
     refine tk (i:=19) (h:=?_)
     try simp only [Act.put,lt,ly,lu]
     refine wpAnyH_done (by kernel_rfl) ?_ _
     go_wp2_with fail
     go_roundw
     case rel=>exact ⟨k+1,hkn,by go_num,HR2⟩
     case measure=>simp [intOf];omega
   · obtain rfl:k=n:=Nat.le_antisymm hk hkn
     have hin:decide (k<k)=false:=dF_ (Nat.lt_irrefl _)
     obtain ⟨HG,HB,-⟩:=hrel.out
     obtain ⟨g,cap,rfl,hr⟩:=HG.rboxes
     rw [Dp']
     have hr2:=hid hr
     have HB2:=hid HB
     clear hr HB HG hrel
     go_wp2_with fail
     go_ret
     exact ⟨g,cap,rfl,hr2.out,HB2.out⟩
theorem Bn (N:Nat):Aa' ((N:Nat):Rat)≤max (Vx.len N) 1:=Cu' N
def IB (w:World) (cx cg:Array Value) (p g:Rat) (wr:World):Prop :=
  wr.heap[w.heap.size]?=some (.cells cx 39 (0,0))∧wr.heap[w.heap.size+1]?=some (.cells cg 39 (0,0))∧wr.heap[w.heap.size+2]?=some (.cells #[.bool false,.slice none 0 0,.slice none 0 0] 39 (0,0))∧Ah' wr (.agg cx) p∧Ah' wr (.agg cg) g∧Below w.heap.size w wr
theorem IB.keep {w:World} {cx cg:Array Value} {p g:Rat} {u v:World} (h:IB w cx cg p g u) (hb:Below u.heap.size u v):IB w cx cg p g v :=
 ⟨Ad' h.1 hb,Ad' h.2.1 hb,Ad' h.2.2.1 hb,h.2.2.2.1.keep hb,h.2.2.2.2.1.keep hb,chain h.2.2.2.2.2 hb⟩
def B9' (w:World) (b o:Nat) (l:List Rat):Prop:=∀ (i:Nat) (q:Rat),l[i]?=some q→∃ s A1 n1 c1 A2 n2 c2,w.cell? ⟨b,o+i*3,none⟩=some (.bool s)∧w.cell? ⟨b,o+i*3+1,none⟩=some (.slice A1 n1 c1)∧w.cell? ⟨b,o+i*3+2,none⟩=some (.slice A2 n2 c2)∧Ah' w (.agg #[.bool s,.slice A1 n1 c1,.slice A2 n2 c2]) q
theorem B9'.keep {w w':World} {b o:Nat} {l:List Rat} (h:B9' w b o l) (hb:Below w.heap.size w w'):B9' w' b o l:=by
 intro i q hi
 obtain ⟨s,A1,n1,c1,A2,n2,c2,h0,h1,h2,h3⟩:=h i q hi
 have hl:=bL w _ h0
 exact ⟨s,A1,n1,c1,A2,n2,c2,(hb.cell (p:=⟨b,o+i*3,none⟩) hl).trans h0,(hb.cell (p:=⟨b,o+i*3+1,none⟩) hl).trans h1,(hb.cell (p:=⟨b,o+i*3+2,none⟩) hl).trans h2,h3.keep hb⟩
theorem B9'.stay {w w':World} {b o B:Nat} {l:List Rat} (h:B9' w b o l) (hne:b≠B) (hO:∀ (n:Nat) (x:Obj),n≠B→w.heap[n]?=some x→w'.heap[n]?=some x) (hL:AU w w'):B9' w' b o l:=by
 intro i q hi
 obtain ⟨s,A1,n1,c1,A2,n2,c2,h0,h1,h2,h3⟩:=h i q hi
 have hl:=bL w _ h0
 have he:w'.heap[b]?=w.heap[b]?:=by
   have:w.heap[b]?=some w.heap[b]:=by simp [hl]
   rw [hO b _ hne this,this]
 exact ⟨s,A1,n1,c1,A2,n2,c2,(World.cell?_of_block he).trans h0,(World.cell?_of_block he).trans h1,(World.cell?_of_block he).trans h2,hL.rat h3⟩
def Fr (w:World) (b o B:Nat) (x0:Rat) (l:List Rat) (k:Nat) (wr:World):Prop :=
  ∃ s1 A1 n1 c1 A2 n2 c2 s2 A3 n3 c3 A4 n4 c4,wr.heap[B]?=some (.cells #[.bool s1,.slice A1 n1 c1,.slice A2 n2 c2,.bool s2,.slice A3 n3 c3,.slice A4 n4 c4] 41 (0,0)) ∧
    Aw wr (.agg #[.bool s1,.slice A1 n1 c1,.slice A2 n2 c2,.bool s2,.slice A3 n3 c3,.slice A4 n4 c4]) (leastOf x0 (l.take k)) (greatestOf x0 (l.take k)) ∧
    B9' wr b o (x0::l)∧wr.heap[w.heap.size]?=some (.cells #[.bool false,.slice none 0 0,.slice none 0 0,.bool false,.slice none 0 0,.slice none 0 0] 41 (0,0))∧Below w.heap.size w wr
theorem Hw' {x0 q:Rat} {l:List Rat} {k:Nat} (h:l[k]?=some q):∀ m,leastOf x0 (l.take k)=m→(if m≤q then m else q)=leastOf x0 (l.take (k+1)):=by
 intro m hm
 rw [B5' h,hm]
 rcases Decidable.em (q<m) with k | k
 · rw [if_pos k,if_neg (Rat.not_le.2 k)]
 · rw [if_neg k,if_pos (Rat.not_lt.1 k)]
theorem Hx {x0 q:Rat} {l:List Rat} {k:Nat} (h:l[k]?=some q):∀ m,greatestOf x0 (l.take k)=m→(if q≤m then m else q)=greatestOf x0 (l.take (k+1)):=by
 intro m hm
 rw [BG' h,hm]
 rcases Decidable.em (m<q) with k | k
 · rw [if_pos k,if_neg (Rat.not_le.2 k)]
 · rw [if_neg k,if_pos (Rat.not_lt.1 k)]
theorem Gy' {x0:Rat} {l:List Rat} {N:Nat} (h:∀ y∈x0::l,Aa' y≤N):∀ k,Aa' (leastOf x0 (l.take k))≤N∧Aa' (greatestOf x0 (l.take k))≤N:=by
 intro k
 induction k with
 | zero=>exact ⟨h x0 (by simp),h x0 (by simp)⟩
 | succ k ih =>
   rcases hq:l[k]? with _ | q
   · have:l.take (k+1)=l.take k:=by rw [List.take_add_one,hq];simp
     rw [this];exact ih
   · rw [B5' hq,BG' hq]
     have hm:=h q (List.mem_cons_of_mem _ (List.mem_of_getElem? hq))
     constructor <;> split <;> first | exact hm | exact ih.1 | exact ih.2
theorem Hx' {w:World} {b o c:Nat} {x0 lo hi:Rat} {l:List Rat} (el:leastOf x0 l=lo) (eh:greatestOf x0 l=hi) (hl:B9' w b o (x0::l)) (hn:l.length≤1000) (hs:∀ y∈x0::l,Aa' y≤16777216) :
   Calls Tryz.prog 92 #[.slice (some ⟨b,o,none⟩) (l.length+1) c] w (Cf' w lo hi):=by
 have HS:=hid (Gy' hs)
 have HQ:=hid (fun q (hq:q∈x0::l)=>hs q hq)
 have e0l:leastOf x0 (l.take 0)=x0:=rfl
 have e0g:greatestOf x0 (l.take 0)=x0:=rfl
 replace e0l:=hid e0l
 replace e0g:=hid e0g
 clear hs
 replace el:=hid el
 replace eh:=hid eh
 replace hl:=hid hl
 obtain ⟨w1,hw1⟩:=eX ((w.alloc (.cells #[.bool false,.slice none 0 0,.slice none 0 0,.bool false,.slice none 0 0,.slice none 0 0] 41)))
 have b1:=Ag' w (.cells #[.bool false,.slice none 0 0,.slice none 0 0,.bool false,.slice none 0 0,.slice none 0 0] 41)
 have g1:=hA_ w (.cells #[.bool false,.slice none 0 0,.slice none 0 0,.bool false,.slice none 0 0,.slice none 0 0] 41)
 rw [←hw1] at b1 g1
 replace g1:=hid g1
 replace b1:=hid b1
 go_enter Tryz.func92,Tryz.ntmps92
 go_upto_region 1 with fail
 rw [←hw1]
 clear hw1
 obtain ⟨s0,A1,n1,c1,A2,n2,c2,z0,z1,z2,hx0⟩:=(hl.out.keep b1.out) 0 x0 rfl
 rw [Nat.zero_mul,Nat.add_zero] at z0 z1 z2
 have hbl:b<w.heap.size:=by obtain ⟨_,_,_,_,_,_,_,y0,_⟩:=hl.out 0 x0 rfl;exact bL w _ y0
 have i1:decide (0<l.length+1)=true:=dT_ (by omega)
 have i2:(0:Int)<((l.length+1:Nat):Int):=by omega
 have HX:=hid (C6' hx0)
 go_wp2_with fail
 refine (HX.out).mono ?_
 rintro e w2 ⟨v2,rfl,hv2,b2⟩
 obtain ⟨C1,j1,C2,j2,C3,j3,C4,j4,rfl,-,-,-,-⟩:=id hv2.opened
 replace hv2:=hid hv2
 replace b2:=hid b2
 clear HX
 clear z0 z1 z2 hx0 i1 i2
 go_upto_region 2 with fail
 obtain ⟨w3,hw3⟩:=eX (w2.alloc (.cells #[.bool (decide (x0.num<0)),.slice C1 (len x0.num.natAbs) j1,.slice C2 (len x0.den) j2,.bool (decide (x0.num<0)),.slice C3 (len x0.num.natAbs) j3,.slice C4 (len x0.den) j4] 41))
 have b3:=hid (AC hw3)
 have L3:=hid (AI' hw3)
 rw [←hw3]
 clear hw3
 have y0_3:=hid (bS (bS b1.out b2.out) b3.out)
 have y1_3:=hid (bS b2.out b3.out)
 obtain ⟨B,hB⟩:=eY w2.heap.size
 have hGB:w.heap.size<B:=by rw [←hB];exact at_lt (Ad' g1.out b2.out)
 have HE:Hid (Fr w b o B x0 l 0 w3):=hid ⟨_,_,_,_,_,_,_,_,_,_,_,_,_,_,by rw [←hB];exact L3.out,by rw [e0l.out,e0g.out];exact (hv2.out.keep b3.out),hl.out.keep y0_3.out,Ad' g1.out y1_3.out,y0_3.out⟩
 rw [hB]
 clear hB L3 g1 hl
 go_wp2_with fail
 go_loopw [4] (fun iv wr=>∃ k:Nat,k≤l.length∧iv=.int .i64 ((k+1:Nat):Int)∧Hid (Fr w b o B x0 l k wr)) (fun iv _=>l.length+1 - (intOf iv).toNat)
 case atStart=>exact ⟨0,Nat.zero_le _,rfl,HE⟩
 case round =>
   obtain ⟨k,hk,rfl,hrel⟩:=hrel
   clear HE
   obtain ⟨s1,A1,n1,c1,A2,n2,c2,s2,A3,n3,c3,A4,n4,c4,g5,hv,hRs,gR,hbw⟩:=hrel.out
   clear hrel
   obtain ⟨m,hm⟩:=eY (leastOf x0 (l.take k))
   obtain ⟨M,hM⟩:=eY (greatestOf x0 (l.take k))
   obtain ⟨tm,tM⟩:=HS.out k
   rw [hm] at hv tm
   rw [hM] at hv tM
   rcases Nat.lt_or_ge k l.length with hkn | hkn
   · obtain ⟨q,hq⟩:∃ q,l[k]?=some q:=⟨l[k],by simp [hkn]⟩
     have tq:=HQ.out q (List.mem_cons_of_mem _ (List.mem_of_getElem? hq))
     have E1:=hid (Hw' hq m hm)
     have E2:=hid (Hx hq M hM)
     obtain ⟨s5,A5,n5,c5,A6,n6,c6,y0,y1,y2,hxq⟩:=hRs (k+1) q (by simpa using hq)
     obtain ⟨z0,z1,z2,z3,z4,z5⟩:=Ae' g5
     obtain ⟨u,hu⟩:=eY (o+(k+1)*3)
     have hu':o+(k*3+3)=u:=by omega
     rw [hu] at y0 y1 y2
     have hlo:Ah' wr (.agg #[.bool s1,.slice A1 n1 c1,.slice A2 n2 c2]) m:=by
       obtain ⟨v1,v2,v3,v4,e,i1,i2,-,-⟩:=hv
       simp only [Value.agg.injEq,Array.mk.injEq,List.cons.injEq,Value.bool.injEq,and_true] at e
       obtain ⟨rfl,rfl,rfl,-,-,-⟩:=e
       exact ⟨_,_,rfl,i1,i2⟩
     have hhi:Ah' wr (.agg #[.bool s2,.slice A3 n3 c3,.slice A4 n4 c4]) M:=by
       obtain ⟨v1,v2,v3,v4,e,-,-,i1,i2⟩:=hv
       simp only [Value.agg.injEq,Array.mk.injEq,List.cons.injEq,Value.bool.injEq,and_true] at e
       obtain ⟨-,-,-,rfl,rfl,rfl⟩:=e
       exact ⟨_,_,rfl,i1,i2⟩
     have hBl:B<wr.heap.size:=at_lt g5
     have hbl2:b<wr.heap.size:=ltl hbl hbw.size
     have hin:decide (k+1<l.length+1)=true:=dT_ (by omega)
     have hin2:k+1<l.length+1:=by omega
     have hin3:decide (k<l.length)=true:=dT_ hkn
     have hin4:(0:Int)≤((k:Nat):Int)+1:=by omega
     obtain ⟨m2,em2⟩:=eY (leastOf x0 (l.take (k+1)))
     obtain ⟨M2,eM2⟩:=eY (greatestOf x0 (l.take (k+1)))
     rw [em2] at E1
     rw [eM2] at E2
     replace em2:=hid em2
     replace eM2:=hid eM2
     have hidx:((k+1:Nat):Int).toNat=k+1:=Int.toNat_natCast _
     clear hm hM hv
     replace hlo:=hid hlo
     replace hhi:=hid hhi
     replace hxq:=hid hxq
     replace g5:=hid g5
     replace hRs:=hid hRs
     replace gR:=hid gR
     replace hbw:=hid hbw
     replace hq:=hid hq
     replace tm:=hid tm
     replace tM:=hid tM
     replace tq:=hid tq
     go_upto_region 5 with fail
     go_wp2_with fail
     refine Ci' (s:=15) (S:=(fun w'=>(w'.cell? ⟨B,0,none⟩=wr.cell? ⟨B,0,none⟩∧w'.cell? ⟨B,1,none⟩=wr.cell? ⟨B,1,none⟩∧w'.cell? ⟨B,2,none⟩=wr.cell? ⟨B,2,none⟩∧w'.cell? ⟨B,3,none⟩=wr.cell? ⟨B,3,none⟩∧w'.cell? ⟨B,4,none⟩=wr.cell? ⟨B,4,none⟩∧w'.cell? ⟨B,5,none⟩=wr.cell? ⟨B,5,none⟩∧w'.cell? ⟨b,u,none⟩=wr.cell? ⟨b,u,none⟩∧w'.cell? ⟨b,u+1,none⟩=wr.cell? ⟨b,u+1,none⟩∧w'.cell? ⟨b,u+2,none⟩=wr.cell? ⟨b,u+2,none⟩))) (by kernel_rfl) (by rfl) (by rfl) (by kernel_rfl) ?_
     simp only [Cg',lt,ly,lu]
     have hHeld:(fun w'=>(w'.cell? ⟨B,0,none⟩=wr.cell? ⟨B,0,none⟩∧w'.cell? ⟨B,1,none⟩=wr.cell? ⟨B,1,none⟩∧w'.cell? ⟨B,2,none⟩=wr.cell? ⟨B,2,none⟩∧w'.cell? ⟨B,3,none⟩=wr.cell? ⟨B,3,none⟩∧w'.cell? ⟨B,4,none⟩=wr.cell? ⟨B,4,none⟩∧w'.cell? ⟨B,5,none⟩=wr.cell? ⟨B,5,none⟩∧w'.cell? ⟨b,u,none⟩=wr.cell? ⟨b,u,none⟩∧w'.cell? ⟨b,u+1,none⟩=wr.cell? ⟨b,u+1,none⟩∧w'.cell? ⟨b,u+2,none⟩=wr.cell? ⟨b,u+2,none⟩)) wr:=⟨rfl,rfl,rfl,rfl,rfl,rfl,rfl,rfl,rfl⟩
     obtain ⟨w91,hw91⟩:=eX wr.drew
     have b91:Hid (Below wr.heap.size wr w91):=hid (by rw [hw91];exact ⟨rfl,rfl,rfl,nL _,fun _ _=>rfl⟩)
     replace hHeld:(fun w'=>(w'.cell? ⟨B,0,none⟩=wr.cell? ⟨B,0,none⟩∧w'.cell? ⟨B,1,none⟩=wr.cell? ⟨B,1,none⟩∧w'.cell? ⟨B,2,none⟩=wr.cell? ⟨B,2,none⟩∧w'.cell? ⟨B,3,none⟩=wr.cell? ⟨B,3,none⟩∧w'.cell? ⟨B,4,none⟩=wr.cell? ⟨B,4,none⟩∧w'.cell? ⟨B,5,none⟩=wr.cell? ⟨B,5,none⟩∧w'.cell? ⟨b,u,none⟩=wr.cell? ⟨b,u,none⟩∧w'.cell? ⟨b,u+1,none⟩=wr.cell? ⟨b,u+1,none⟩∧w'.cell? ⟨b,u+2,none⟩=wr.cell? ⟨b,u+2,none⟩)) w91:=by rw [hw91];exact hHeld
     rw [←hw91]
     clear hw91
     refine tk (i:=0) (h:=?_)
     try simp only [Act.put,lt,ly,lu]
     refine tk (i:=1) (h:=?_)
     try simp only [Act.put,lt,ly,lu]
     refine tk (i:=2) (h:=?_)
     try simp only [Act.put,lt,ly,lu]
     refine tk (i:=3) (h:=?_)
     try simp only [Act.put,lt,ly,lu]
     refine tk (i:=4) (h:=?_)
     try simp only [Act.put,lt,ly,lu]
     refine tk (i:=5) (h:=?_)
     try simp only [Act.put,lt,ly,lu]
     refine tk (i:=7) (h:=?_)
     try simp only [Act.put,lt,ly,lu]
     refine tk (i:=8) (h:=?_)
     try simp only [Act.put,lt,ly,lu]
     refine tk (i:=9) (h:=?_)
     try simp only [Act.put,lt,ly,lu]
     refine tk (i:=10) (h:=?_)
     try simp only [Act.put,lt,ly,lu]
     refine tk (i:=11) (h:=?_)
     try simp only [Act.put,lt,ly,lu]
     refine tk (i:=12) (h:=?_)
     try simp only [Act.put,lt,ly,lu]
     refine rd (i:=6) (h:=fun K hK=>?_);go_simp;go_at_call 93
     refine (Fk E1.out (hlo.out.keep b91.out) (hxq.out.keep b91.out) tm.out tq.out).mono ?_
     rintro e w92 ⟨v92,rfl,hv92,b92⟩
     obtain ⟨C31,j31,C32,j32,rfl,-,-⟩:=id hv92.opened
     replace hv92:=hid hv92
     replace b92:=hid b92
     have y90_92:=hid (bS b91.out b92.out)
     have hS:=y90_92.out
     clear hHeld
     refine hK.out _ _ ?_ (fun hHeld=>?_)
     · (try dsimp only)
       exact ⟨hS.cell (p:=⟨B,0,none⟩) hBl,hS.cell (p:=⟨B,1,none⟩) hBl,hS.cell (p:=⟨B,2,none⟩) hBl,hS.cell (p:=⟨B,3,none⟩) hBl,hS.cell (p:=⟨B,4,none⟩) hBl,hS.cell (p:=⟨B,5,none⟩) hBl,hS.cell (p:=⟨b,u,none⟩) hbl2,hS.cell (p:=⟨b,u+1,none⟩) hbl2,hS.cell (p:=⟨b,u+2,none⟩) hbl2⟩
     clear hK K hS;try simp only [Act.put,lt,ly,lu]
     refine rd (i:=13) (h:=fun K hK=>?_);go_simp;go_at_call 94
     refine (Fk' E2.out (hhi.out.keep y90_92.out) (hxq.out.keep y90_92.out) tM.out tq.out).mono ?_
     rintro e w93 ⟨v93,rfl,hv93,b93⟩
     obtain ⟨C33,j33,C34,j34,rfl,-,-⟩:=id hv93.opened
     replace hv93:=hid hv93
     replace b93:=hid b93
     have y90_93:=hid (bS y90_92.out b93.out)
     have hS:=y90_93.out
     clear hHeld
     refine hK.out _ _ ?_ (fun hHeld=>?_)
     · (try dsimp only)
       exact ⟨hS.cell (p:=⟨B,0,none⟩) hBl,hS.cell (p:=⟨B,1,none⟩) hBl,hS.cell (p:=⟨B,2,none⟩) hBl,hS.cell (p:=⟨B,3,none⟩) hBl,hS.cell (p:=⟨B,4,none⟩) hBl,hS.cell (p:=⟨B,5,none⟩) hBl,hS.cell (p:=⟨b,u,none⟩) hbl2,hS.cell (p:=⟨b,u+1,none⟩) hbl2,hS.cell (p:=⟨b,u+2,none⟩) hbl2⟩
     clear hK K hS;try simp only [Act.put,lt,ly,lu]
     refine tk (i:=14) (h:=?_)
     try simp only [Act.put,lt,ly,lu]
     refine tk (i:=15) (h:=?_)
     try simp only [Act.put,lt,ly,lu]
     refine wpAnyH_done (by kernel_rfl) ?_ _
     clear hHeld y0 y1 y2 z0 z1 z2 z3 z4 z5 hu hu' hin hin2 hin3 hin4 hidx
     have DB:=Ad' g5.out y90_93.out
     have q0:=cR _ _ 0 _ _ _ DB
     have F0:=fR w93 B 0 _ _ DB
     have q1:=cR _ _ 1 _ _ _ DB
     have F1:=fR w93 B 1 _ _ DB
     have q2:=cR _ _ 2 _ _ _ DB
     have F2:=fR w93 B 2 _ _ DB
     have q3:=cR _ _ 3 _ _ _ DB
     have F3:=fR w93 B 3 _ _ DB
     have q4:=cR _ _ 4 _ _ _ DB
     have F4:=fR w93 B 4 _ _ DB
     have q5:=cR _ _ 5 _ _ _ DB
     have F5:=fR w93 B 5 _ _ DB
     simp only [lg,lz,ls] at q0 q1 q2 q3 q4 q5
     obtain ⟨ue,hw⟩:=eX (((((((w93.setCell ⟨B,0,none⟩ (.bool (decide (m2.num<0)))).setCell ⟨B,1,none⟩ (.slice C31 (len m2.num.natAbs) j31)).setCell ⟨B,2,none⟩ (.slice C32 (len m2.den) j32)).setCell ⟨B,3,none⟩ (.bool (decide (M2.num<0)))).setCell ⟨B,4,none⟩ (.slice C33 (len M2.num.natAbs) j33)).setCell ⟨B,5,none⟩ (.slice C34 (len M2.den) j34)))
     obtain ⟨E,OT,LV,BL⟩:=AG' DB hw
     have FIN:Hid (Fr w b o B x0 l (k+1) ue):=hid ⟨_,_,_,_,_,_,_,_,_,_,_,_,_,_,E,by rw [em2.out,eM2.out];exact LV.rbox (Ah'.pair (hv92.out.keep b93.out) hv93.out),(hRs.out.keep y90_93.out).stay (by omega) OT LV,OT _ _ (by omega) (Ad' gR.out y90_93.out),BL _ _ (by omega) (chain hbw.out y90_93.out)⟩
     refine CP' (by rfl) (by rfl) ?_
     clear DB E OT LV BL
     go_simp
     rw [←hw]
     clear hw q0 q1 q2 q3 q4 q5 F0 F1 F2 F3 F4 F5
     go_wp2_with fail
     go_roundw
     case rel=>exact ⟨k+1,hkn,by go_num,FIN⟩
     case measure=>simp [intOf];omega
   · obtain rfl:k=l.length:=Nat.le_antisymm hk hkn
     rw [List.take_length] at hm hM
     have hm2:=hm.symm.trans el.out
     have hM2:=hM.symm.trans eh.out
     subst hm2 hM2
     obtain ⟨z0,z1,z2,z3,z4,z5⟩:=Ae' g5
     have q0:=cR _ _ 0 _ _ _ gR
     have q1:=cR _ _ 1 _ _ _ gR
     have q2:=cR _ _ 2 _ _ _ gR
     have q3:=cR _ _ 3 _ _ _ gR
     have q4:=cR _ _ 4 _ _ _ gR
     have q5:=cR _ _ 5 _ _ _ gR
     have F0:=fR wr w.heap.size 0 _ _ gR
     have F1:=fR wr w.heap.size 1 _ _ gR
     have F2:=fR wr w.heap.size 2 _ _ gR
     have F3:=fR wr w.heap.size 3 _ _ gR
     have F4:=fR wr w.heap.size 4 _ _ gR
     have F5:=fR wr w.heap.size 5 _ _ gR
     simp only [lg,lz,ls] at q0 q1 q2 q3 q4 q5
     obtain ⟨ue,hw⟩:=eX (((((((wr.setCell ⟨w.heap.size,0,none⟩ (.bool s1)).setCell ⟨w.heap.size,1,none⟩ (.slice A1 n1 c1)).setCell ⟨w.heap.size,2,none⟩ (.slice A2 n2 c2)).setCell ⟨w.heap.size,3,none⟩ (.bool s2)).setCell ⟨w.heap.size,4,none⟩ (.slice A3 n3 c3)).setCell ⟨w.heap.size,5,none⟩ (.slice A4 n4 c4)))
     obtain ⟨E,-,LV,BL⟩:=AG' gR hw
     have FE:=hid (LV.rbox hv)
     have FB:=hid (BL _ _ (nL _) hbw)
     replace E:=hid E
     replace hw:=hid hw
     clear hm hM el eh HS HQ hv hRs gR hbw g5 BL LV tm tM
     go_wp2_with fail
     rw [←hw.out]
     obtain ⟨r0,r1,r2,r3,r4,r5⟩:=Ae' E.out
     refine bP (v:=.agg #[.bool s1,.slice A1 n1 c1,.slice A2 n2 c2,.bool s2,.slice A3 n3 c3,.slice A4 n4 c4]) ?_ rfl ⟨_,rfl,FE.out,FB.out⟩
     simp [results,Tryz.results92,go_sem,r0,r1,r2,r3,r4,r5]
theorem Hy {w:World} {g:Nat} {T:TypeId} {s0 s1 s2 s3:Bool} {A0 B0 A1 B1 A2 B2 A3 B3:Option Addr} {n0 c0 m0 d0 n1 c1 m1 d1 n2 c2 m2 d2 n3 c3 m3 d3:Nat} {q0 q1 q2 q3:Rat} (L:w.heap[g]?=some (.cells #[.bool s0,.slice A0 n0 c0,.slice B0 m0 d0,.bool s1,.slice A1 n1 c1,.slice B1 m1 d1,.bool s2,.slice A2 n2 c2,.slice B2 m2 d2,.bool s3,.slice A3 n3 c3,.slice B3 m3 d3] T (0,0)))
   (h0:Ah' w (.agg #[.bool s0,.slice A0 n0 c0,.slice B0 m0 d0]) q0) (h1:Ah' w (.agg #[.bool s1,.slice A1 n1 c1,.slice B1 m1 d1]) q1) (h2:Ah' w (.agg #[.bool s2,.slice A2 n2 c2,.slice B2 m2 d2]) q2) (h3:Ah' w (.agg #[.bool s3,.slice A3 n3 c3,.slice B3 m3 d3]) q3):B9' w g 0 [q0,q1,q2,q3]:=by
 intro i q hi
 match i,hi with
 | 0,hi=>obtain rfl:=Option.some.inj hi;exact ⟨s0,A0,n0,c0,B0,m0,d0,cR _ _ 0 _ _ _ L,cR _ _ 1 _ _ _ L,cR _ _ 2 _ _ _ L,h0⟩
 | 1,hi=>obtain rfl:=Option.some.inj hi;exact ⟨s1,A1,n1,c1,B1,m1,d1,cR _ _ 3 _ _ _ L,cR _ _ 4 _ _ _ L,cR _ _ 5 _ _ _ L,h1⟩
 | 2,hi=>obtain rfl:=Option.some.inj hi;exact ⟨s2,A2,n2,c2,B2,m2,d2,cR _ _ 6 _ _ _ L,cR _ _ 7 _ _ _ L,cR _ _ 8 _ _ _ L,h2⟩
 | 3,hi=>obtain rfl:=Option.some.inj hi;exact ⟨s3,A3,n3,c3,B3,m3,d3,cR _ _ 9 _ _ _ L,cR _ _ 10 _ _ _ L,cR _ _ 11 _ _ _ L,h3⟩
 | _+4,hi=>exact absurd hi (by simp)
theorem Ea' {a b c d:Rat} {N:Nat} (ha:Aa' a≤N) (hb:Aa' b≤N) (hc:Aa' c≤N) (hd:Aa' d≤N):∀ y∈[a,b,c,d],Aa' y≤N:=by
 intro y hy
 simp only [List.mem_cons,List.not_mem_nil,or_false] at hy
 rcases hy with rfl | rfl | rfl | rfl <;> assumption
theorem FI' {w:World} {vx vy:Value} {a b c d l h:Rat} (el:leastOf (a*c) [a*d,b*c,b*d]=l) (eh:greatestOf (a*c) [a*d,b*c,b*d]=h) (hx:Aw w vx a b) (hy:Aw w vy c d) (sa:Aa' a≤4000000) (sb:Aa' b≤4000000) (sc:Aa' c≤4000000) (sd:Aa' d≤4000000) :
   Calls Tryz.prog 42 #[vx,vy] w (Cf' w l h):=by
 obtain ⟨q0,eq0⟩:=eY (a*c:Rat)
 have tq0:Aa' q0≤16777216:=by rw [←eq0];have:=Vx.AG a c;omega
 obtain ⟨q1,eq1⟩:=eY (a*d:Rat)
 have tq1:Aa' q1≤16777216:=by rw [←eq1];have:=Vx.AG a d;omega
 obtain ⟨q2,eq2⟩:=eY (b*c:Rat)
 have tq2:Aa' q2≤16777216:=by rw [←eq2];have:=Vx.AG b c;omega
 obtain ⟨q3,eq3⟩:=eY (b*d:Rat)
 have tq3:Aa' q3≤16777216:=by rw [←eq3];have:=Vx.AG b d;omega
 rw [eq0,eq1,eq2,eq3] at el eh
 have hsm:=hid (Ea' tq0 tq1 tq2 tq3)
 have ta:=hid (show Aa' a≤268435456 by omega)
 have tb:=hid (show Aa' b≤268435456 by omega)
 have tc:=hid (show Aa' c≤268435456 by omega)
 have td:=hid (show Aa' d≤268435456 by omega)
 clear sa sb sc sd tq0 tq1 tq2 tq3
 replace el:=hid el
 replace eh:=hid eh
 replace eq0:=hid eq0
 replace eq1:=hid eq1
 replace eq2:=hid eq2
 replace eq3:=hid eq3
 obtain ⟨C1,j1,C2,j2,C3,j3,C4,j4,rfl,hxl,hxh⟩:=id hx.opened
 replace hx:=hid hx
 replace hxl:=hid hxl
 replace hxh:=hid hxh
 obtain ⟨C5,j5,C6,j6,C7,j7,C8,j8,rfl,hyl,hyh⟩:=id hy.opened
 replace hy:=hid hy
 replace hyl:=hid hyl
 replace hyh:=hid hyh
 obtain ⟨w1,hw1⟩:=eX ((((w.alloc (.cells #[.bool (decide (a.num<0)),.slice C1 (len a.num.natAbs) j1,.slice C2 (len a.den) j2,.bool (decide (b.num<0)),.slice C3 (len b.num.natAbs) j3,.slice C4 (len b.den) j4] 41)).alloc (.cells #[.bool (decide (c.num<0)),.slice C5 (len c.num.natAbs) j5,.slice C6 (len c.den) j6,.bool (decide (d.num<0)),.slice C7 (len d.num.natAbs) j7,.slice C8 (len d.den) j8] 41)).alloc (.cells #[.bool false,.slice none 0 0,.slice none 0 0,.bool false,.slice none 0 0,.slice none 0 0] 41)))
 obtain ⟨b1,g1,g2,g3⟩:=AK' hw1
 replace g1:=hid g1
 replace g2:=hid g2
 replace g3:=hid g3
 replace b1:=hid b1
 go_enter Tryz.func42,Tryz.ntmps42
 go_upto_region 1 with fail
 rw [←hw1]
 clear hw1
 go_wp2_with fail
 have HSZa:Hid ((w.heap.size+2)≤w1.heap.size):=hid (by have:=at_lt (Ad' g3.out (Below.refl _ w1));omega)
 obtain ⟨z_x_0,z_x_1,z_x_2,z_x_3,z_x_4,z_x_5⟩:=Ae' g1.out
 have hlta_x:w.heap.size<(w.heap.size+2):=by omega
 obtain ⟨z_y_0,z_y_1,z_y_2,z_y_3,z_y_4,z_y_5⟩:=Ae' g2.out
 have hlta_y:w.heap.size+1<(w.heap.size+2):=by omega
 have H0:=Af.start w1 (w.heap.size+2)
 have H0':=H0
 unfold Af at H0'
 refine wp_region_held_drew (S:=(fun w'=>(∀ b o,b<(w.heap.size+2)→w'.cell? ⟨b,o,none⟩=w1.cell? ⟨b,o,none⟩)∧Below ((w.heap.size+2)) w1 w'∧Aj w1 w')) (by kernel_rfl) ?_ (fun hHeld=>?_)
 · (try dsimp only)
   exact H0'
 obtain ⟨w2,hw2⟩:=eX w1.drew
 have b2:Hid (Below w1.heap.size w1 w2):=by rw [hw2];exact ⟨rfl,rfl,rfl,nL _,fun _ _=>rfl⟩
 rw [←hw2] at hHeld H0 ⊢
 clear hw2 H0'
 refine tk (i:=0) (h:=?_)
 try simp only [Act.put,lt,ly,lu]
 refine tk (i:=1) (h:=?_)
 try simp only [Act.put,lt,ly,lu]
 refine tk (i:=2) (h:=?_)
 try simp only [Act.put,lt,ly,lu]
 refine tk (i:=3) (h:=?_)
 try simp only [Act.put,lt,ly,lu]
 refine tk (i:=5) (h:=?_)
 try simp only [Act.put,lt,ly,lu]
 refine tk (i:=6) (h:=?_)
 try simp only [Act.put,lt,ly,lu]
 refine tk (i:=7) (h:=?_)
 try simp only [Act.put,lt,ly,lu]
 refine tk (i:=8) (h:=?_)
 try simp only [Act.put,lt,ly,lu]
 refine tk (i:=10) (h:=?_)
 try simp only [Act.put,lt,ly,lu]
 refine tk (i:=11) (h:=?_)
 try simp only [Act.put,lt,ly,lu]
 refine tk (i:=12) (h:=?_)
 try simp only [Act.put,lt,ly,lu]
 refine tk (i:=13) (h:=?_)
 try simp only [Act.put,lt,ly,lu]
 refine tk (i:=15) (h:=?_)
 try simp only [Act.put,lt,ly,lu]
 refine tk (i:=16) (h:=?_)
 try simp only [Act.put,lt,ly,lu]
 refine tk (i:=17) (h:=?_)
 try simp only [Act.put,lt,ly,lu]
 refine tk (i:=18) (h:=?_)
 try simp only [Act.put,lt,ly,lu]
 have y0_2:=hid (bS b1.out b2.out)
 refine rd (i:=4) (h:=fun K hK=>?_);go_simp;go_at_call 38
 refine (Cf eq0.out (hxl.out.keep y0_2.out) (hyl.out.keep y0_2.out) ta.out tc.out).mono ?_
 rintro e w3 ⟨v3,rfl,hv3,b3⟩
 obtain ⟨C9,j9,C10,j10,rfl,-,-⟩:=id hv3.opened
 replace hv3:=hid hv3
 replace b3:=hid b3
 have hk3:=AZ' H0 HSZa b3.out;clear hHeld H0
 refine hK.out _ _ (by (try dsimp only);with_reducible exact hun hk3) (fun hHeld=>?_)
 clear hK K;try simp only [Act.put,lt,ly,lu]
 have y0_3:=hid (bS y0_2.out b3.out)
 refine rd (i:=9) (h:=fun K hK=>?_);go_simp;go_at_call 38
 refine (Cf eq1.out (hxl.out.keep y0_3.out) (hyh.out.keep y0_3.out) ta.out td.out).mono ?_
 rintro e w4 ⟨v4,rfl,hv4,b4⟩
 obtain ⟨C11,j11,C12,j12,rfl,-,-⟩:=id hv4.opened
 replace hv4:=hid hv4
 replace b4:=hid b4
 have hk4:=AZ' hk3 HSZa b4.out;clear hHeld hk3
 refine hK.out _ _ (by (try dsimp only);with_reducible exact hun hk4) (fun hHeld=>?_)
 clear hK K;try simp only [Act.put,lt,ly,lu]
 have y0_4:=hid (bS y0_3.out b4.out)
 refine rd (i:=14) (h:=fun K hK=>?_);go_simp;go_at_call 38
 refine (Cf eq2.out (hxh.out.keep y0_4.out) (hyl.out.keep y0_4.out) tb.out tc.out).mono ?_
 rintro e w5 ⟨v5,rfl,hv5,b5⟩
 obtain ⟨C13,j13,C14,j14,rfl,-,-⟩:=id hv5.opened
 replace hv5:=hid hv5
 replace b5:=hid b5
 have hk5:=AZ' hk4 HSZa b5.out;clear hHeld hk4
 refine hK.out _ _ (by (try dsimp only);with_reducible exact hun hk5) (fun hHeld=>?_)
 clear hK K;try simp only [Act.put,lt,ly,lu]
 have y0_5:=hid (bS y0_4.out b5.out)
 refine rd (i:=19) (h:=fun K hK=>?_);go_simp;go_at_call 38
 refine (Cf eq3.out (hxh.out.keep y0_5.out) (hyh.out.keep y0_5.out) tb.out td.out).mono ?_
 rintro e w6 ⟨v6,rfl,hv6,b6⟩
 obtain ⟨C15,j15,C16,j16,rfl,-,-⟩:=id hv6.opened
 replace hv6:=hid hv6
 replace b6:=hid b6
 have hk6:=AZ' hk5 HSZa b6.out;clear hHeld hk5
 refine hK.out _ _ (by (try dsimp only);with_reducible exact hun hk6) (fun hHeld=>?_)
 clear hK K;try simp only [Act.put,lt,ly,lu]
 refine wpAnyH_ready (rs:=[20]) (by kernel_rfl) (by simp) (AllReadyH.cons (o:=?oq21) ?eq21 ?kq21 AllReadyH.nil)
 case eq21=>simp only [lg,lz,ls];rfl
 intro K hK;go_simp
 have y3_6:=hid (bS (bS b4.out b5.out) b6.out)
 have y4_6:=hid (bS b5.out b6.out)
 obtain ⟨w7,hw7⟩:=eX (w6.alloc (.cells #[.bool (decide (q0.num<0)),.slice C9 (len q0.num.natAbs) j9,.slice C10 (len q0.den) j10,.bool (decide (q1.num<0)),.slice C11 (len q1.num.natAbs) j11,.slice C12 (len q1.den) j12,.bool (decide (q2.num<0)),.slice C13 (len q2.num.natAbs) j13,.slice C14 (len q2.den) j14,.bool (decide (q3.num<0)),.slice C15 (len q3.num.natAbs) j15,.slice C16 (len q3.den) j16] 39))
 have b7:Below w6.heap.size w6 w7:=AC hw7
 have HR7:=hid (Hy (AI' hw7) (((hv3.out.keep (bS (bS b4.out b5.out) b6.out))).keep b7) (((hv4.out.keep (bS b5.out b6.out))).keep b7) (((hv5.out.keep b6.out)).keep b7) ((hv6.out).keep b7))
 rw [←hw7]
 clear hw7
 have hk7:=AZ' hk6 HSZa b7;replace b7:=hid b7;have hk7':=hk7;unfold Af at hk7';clear hHeld hk6
 refine hK.out _ _ ?_ (fun hHeld=>?_)
 · (try dsimp only);with_reducible exact hk7'
 clear hK K hk7';try simp only [Act.put,lt,ly,lu]
 refine rd (i:=21) (h:=fun K hK=>?_);go_simp;go_at_call 92
 refine (Hx' el.out eh.out HR7.out (by simp) hsm.out).mono ?_
 rintro e w8 ⟨v8,rfl,hv8,b8⟩
 obtain ⟨C17,j17,C18,j18,C19,j19,C20,j20,rfl,-,-,-,-⟩:=id hv8.opened
 replace hv8:=hid hv8
 replace b8:=hid b8
 have hk8:=AZ' hk7 HSZa b8.out;clear hHeld hk7
 refine hK.out _ _ (by (try dsimp only);with_reducible exact hun hk8) (fun hHeld=>?_)
 clear hK K;try simp only [Act.put,lt,ly,lu]
 have y1_8:=hid (bS (bS (bS (bS (bS (bS b2.out b3.out) b4.out) b5.out) b6.out) b7.out) b8.out)
 have Dq23:=(Ad' g3.out y1_8.out)
 refine rd (i:=22) (h:=fun K hK=>?_)
 have q0:w8.cell? ⟨w.heap.size+2,0,none⟩=some (.bool false):=cR _ _ _ _ _ _ Dq23
 have F0:w8.frozen? ⟨w.heap.size+2,0,none⟩=false:=fR w8 (w.heap.size+2) 0 _ _ Dq23
 have q1:w8.cell? ⟨w.heap.size+2,1,none⟩=some (.slice none 0 0):=cR _ _ _ _ _ _ Dq23
 have F1:w8.frozen? ⟨w.heap.size+2,1,none⟩=false:=fR w8 (w.heap.size+2) 1 _ _ Dq23
 have q2:w8.cell? ⟨w.heap.size+2,2,none⟩=some (.slice none 0 0):=cR _ _ _ _ _ _ Dq23
 have F2:w8.frozen? ⟨w.heap.size+2,2,none⟩=false:=fR w8 (w.heap.size+2) 2 _ _ Dq23
 have q3:w8.cell? ⟨w.heap.size+2,3,none⟩=some (.bool false):=cR _ _ _ _ _ _ Dq23
 have F3:w8.frozen? ⟨w.heap.size+2,3,none⟩=false:=fR w8 (w.heap.size+2) 3 _ _ Dq23
 have q4:w8.cell? ⟨w.heap.size+2,4,none⟩=some (.slice none 0 0):=cR _ _ _ _ _ _ Dq23
 have F4:w8.frozen? ⟨w.heap.size+2,4,none⟩=false:=fR w8 (w.heap.size+2) 4 _ _ Dq23
 have q5:w8.cell? ⟨w.heap.size+2,5,none⟩=some (.slice none 0 0):=cR _ _ _ _ _ _ Dq23
 have F5:w8.frozen? ⟨w.heap.size+2,5,none⟩=false:=fR w8 (w.heap.size+2) 5 _ _ Dq23
 replace Dq23:=hid Dq23
 go_simp
 clear q0 F0 q1 F1 q2 F2 q3 F3 q4 F4 q5 F5
 have y0_8:=hid (bS (bS (bS y0_5.out b6.out) b7.out) b8.out)
 have FB:=hid y0_8.out
 have FV:=hid hv8.out
 obtain ⟨ue,hw⟩:=eX (((((((w8.setCell ⟨w.heap.size+2,0,none⟩ (.bool (decide (l.num<0)))).setCell ⟨w.heap.size+2,1,none⟩ (.slice C17 (len l.num.natAbs) j17)).setCell ⟨w.heap.size+2,2,none⟩ (.slice C18 (len l.den) j18)).setCell ⟨w.heap.size+2,3,none⟩ (.bool (decide (h.num<0)))).setCell ⟨w.heap.size+2,4,none⟩ (.slice C19 (len h.num.natAbs) j19)).setCell ⟨w.heap.size+2,5,none⟩ (.slice C20 (len h.den) j20)))
 obtain ⟨E_ue,OT,LV,BL⟩:=AG' Dq23.out hw
 rw [←hw]
 clear hw
 replace E_ue:=hid E_ue
 have FE:=hid (LV.rbox FV.out)
 replace FB:=hid (BL _ _ (by omega) FB.out)
 have HKE:=hk8
 refine hK.out _ _ ?_ (fun hHeld2=>?_)
 · (try dsimp only)
   exact ⟨fun b o hb=>(Ao (BL (w.heap.size+2) _ (by omega) hk8.2.1)) b o hb,BL (w.heap.size+2) _ (by omega) hk8.2.1,C5' hk8.2.2 LV⟩
 clear hK K hHeld OT LV BL HKE
 try simp only [Act.put,lt,ly,lu]
 have hHeld:=hHeld2
 clear hHeld2
 refine wpAnyH_done (by kernel_rfl) ?_ _
 clear hHeld
 obtain ⟨r0,r1,r2,r3,r4,r5⟩:=Ae' E_ue.out
 go_wp2_with fail
 refine bP (v:=.agg #[.bool (decide (l.num<0)),.slice C17 (len l.num.natAbs) j17,.slice C18 (len l.den) j18,.bool (decide (h.num<0)),.slice C19 (len h.num.natAbs) j19,.slice C20 (len h.den) j20]) ?_ rfl ⟨_,rfl,FE.out,FB.out⟩
 simp [results,Tryz.results42,go_sem,r0,r1,r2,r3,r4,r5]
end Go.Proofs.YtbigkkjnhcpgiaaGreatDoor.Rf
namespace Go.Proofs.YtbigkkjnhcpgiaaGreatDoor
open Lib (hid)
open Vx
theorem EF' {a b c d:Rat} (hab:a≤b) (hcd:c≤d):(if a≤c then a else c)=leastOf a [b,c,d]∧(if d≤b then b else d)=greatestOf a [b,c,d]:=by
 constructor
 · show _=(if d<(if c<(if b<a then b else a) then c else (if b<a then b else a)) then d else (if c<(if b<a then b else a) then c else (if b<a then b else a)))
   grind
 · show _=(if (if (if a<b then b else a)<c then c else (if a<b then b else a))<d then d else (if (if a<b then b else a)<c then c else (if a<b then b else a)))
   grind
open Go.RowKit
theorem Ba'.keep {w w':World} {b o:Nat} {l:List Rat} (h:Ba' w b o l) (hb:Below w.heap.size w w'):Ba' w' b o l:=by
 intro i q hi
 obtain ⟨p,h1,h2,h3,h4⟩:=h i q hi
 exact ⟨p,(hb.cell (bL w _ h1)).trans h1,(hb.cell (bL w _ h2)).trans h2,(hb.cell (bL w _ h3)).trans h3,Ac'.keep h4 hb⟩
end Go.Proofs.YtbigkkjnhcpgiaaGreatDoor
