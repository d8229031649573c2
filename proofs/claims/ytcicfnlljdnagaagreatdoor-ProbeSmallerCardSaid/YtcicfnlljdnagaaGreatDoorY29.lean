/-
  Contracts of the functions that the law calls, for every input (Rz Sa Sc Sd Se Sf Tb Tc Td Tr Te).
-/
import Derived.Test.YtcicfnlljdnagaaGreatDoorY00
import Derived.Test.YtcicfnlljdnagaaGreatDoorY26
import Derived.Test.YtcicfnlljdnagaaGreatDoorY17
import Derived.Test.YtcicfnlljdnagaaGreatDoorY18
import Derived.Test.YtcicfnlljdnagaaGreatDoorY27
import Derived.Deep.LoopGhost
import Derived.Test.YtcicfnlljdnagaaGreatDoorY22
import Derived.Test.YtcicfnlljdnagaaGreatDoorY25
import Derived.Test.YtcicfnlljdnagaaGreatDoorY28
import Derived.Test.YtcicfnlljdnagaaGreatDoorY19
import Derived.Test.YtcicfnlljdnagaaGreatDoorY11
import Derived.Test.YtcicfnlljdnagaaGreatDoorY12
import Derived.Test.YtcicfnlljdnagaaGreatDoorY08
set_option linter.all false
set_option maxRecDepth 100000
set_option maxHeartbeats 40000000
namespace Go.Proofs.YtcicfnlljdnagaaGreatDoor
open Lib (hid)
open Go.RowKit
open Vx
end Go.Proofs.YtcicfnlljdnagaaGreatDoor
namespace Go.Proofs.YtcicfnlljdnagaaGreatDoor.Rf
open Lib (hid)
open Go.RowKit
open Rx
open Vx (Ab' Ah Ah')
open List renaming getElem?_toArray → lg, getElem?_cons_zero → lz, getElem?_cons_succ → ls, setIfInBounds_toArray → lt, set_cons_zero → ly, set_cons_succ → lu
theorem Fp (n:Nat):len n≤4*Vx.len n:=by
 apply Ax
 rw [Nat.pow_mul]
 exact Vx.Am n
theorem FM' {w:World} {b:Bool} {A A':Option Addr} {n c n' c':Nat} {T:TypeId}:∀ u,u=w.alloc (.cells #[.bool b,.slice A n c,.slice A' n' c'] T) →
   Below w.heap.size w u∧u.cell? ⟨w.heap.size,0,none⟩=some (.bool b)∧u.cell? ⟨w.heap.size,1,none⟩=some (.slice A n c)∧u.cell? ⟨w.heap.size,2,none⟩=some (.slice A' n' c'):=by
 intro u hu
 have g:=hA_ w (.cells #[.bool b,.slice A n c,.slice A' n' c'] T)
 have h:=An w (.cells #[.bool b,.slice A n c,.slice A' n' c'] T)
 rw [←hu] at g h
 exact ⟨h,cR _ _ _ _ _ _ g,cR _ _ _ _ _ _ g,cR _ _ _ _ _ _ g⟩
def Hn' (w:World) (n:Int) (e:Ending) (w':World):Prop:=e=.returned (.int .i64 n)∧Below w.heap.size w w'
theorem G4' {w:World} {b d:Bool} {A A' B B':Option Addr} {n c n' c' m e m' e' R:Nat} (hR:w.heap.size=R):∀ u,u=((w.alloc (.cells #[.bool b,.slice A n c,.slice A' n' c'] 38)).alloc (.cells #[.bool d,.slice B m e,.slice B' m' e'] 38)).alloc (.cells #[.bool false,.slice none 0 0,.slice none 0 0] 38) →
   ∃ wA,Below w.heap.size w wA∧wA.heap.size=R+2∧Below wA.heap.size wA u∧RB wA (R+2) u∧wA.cell? ⟨R,0,none⟩=some (.bool b)∧wA.cell? ⟨R,1,none⟩=some (.slice A n c)∧wA.cell? ⟨R,2,none⟩=some (.slice A' n' c') ∧
     wA.cell? ⟨R+1,0,none⟩=some (.bool d)∧wA.cell? ⟨R+1,1,none⟩=some (.slice B m e)∧wA.cell? ⟨R+1,2,none⟩=some (.slice B' m' e'):=by
 intro u hu
 obtain ⟨w1,hw1⟩:=eX (w.alloc (.cells #[.bool b,.slice A n c,.slice A' n' c'] 38))
 rw [←hw1] at hu
 obtain ⟨b0,k0,k1,k2⟩:=FM' _ hw1
 have hs1:w1.heap.size=R+1:=by rw [hw1,World.size_alloc,hR]
 obtain ⟨wA,hwA⟩:=eX (w1.alloc (.cells #[.bool d,.slice B m e,.slice B' m' e'] 38))
 obtain ⟨b1,j0,j1,j2⟩:=FM' _ hwA
 have hs:wA.heap.size=R+2:=by rw [hwA,World.size_alloc,hs1]
 rw [←hwA] at hu
 have hb:=An wA (.cells #[.bool false,.slice none 0 0,.slice none 0 0] 38)
 have hr:=RB.start wA
 rw [←hu] at hb hr
 rw [hs] at hr
 rw [hR] at k0 k1 k2
 rw [hs1] at j0 j1 j2
 have hl:R<w1.heap.size:=by omega
 exact ⟨wA,Ae' b0 b1,hs,hb,hr,(b1.cell (p:=⟨R,0,none⟩) hl).trans k0,(b1.cell (p:=⟨R,1,none⟩) hl).trans k1,(b1.cell (p:=⟨R,2,none⟩) hl).trans k2,j0,j1,j2⟩
theorem EP (q:Rat):q.num=if decide (q.num<0)=true then -((q.num.natAbs:Nat):Int) else ((q.num.natAbs:Nat):Int):=by
 by_cases h:q.num<0
 · rw [if_pos (dT_ h)];omega
 · rw [if_neg (by rw [dF_ h];decide)];omega
theorem Dk' (b d:Bool) (x y:Nat):(if (b != d)=true then -((x*y:Nat):Int) else ((x*y:Nat):Int))=(if b=true then -((x:Nat):Int) else ((x:Nat):Int))*(if d=true then -((y:Nat):Int) else ((y:Nat):Int)):=by
 rw [Int.natCast_mul]
 cases b <;> cases d <;> simp [Int.neg_mul,Int.mul_neg]
theorem Ii' (d:Bool) (x y:Nat):(if d=true then -((x:Nat):Int) else ((x:Nat):Int))*(if d=true then -((y:Nat):Int) else ((y:Nat):Int))=((x:Nat):Int)*((y:Nat):Int):=by
 cases d <;> simp [Int.neg_mul,Int.mul_neg]
theorem HQ' {p q:Rat} (h:q≠0):rat (decide (p.num<0) != decide (q.num<0)) (p.num.natAbs*q.den) (p.den*q.num.natAbs)=p / q:=by
 have hn:0<q.num.natAbs:=by
   have:q.num≠0:=fun e=>h (Rat.num_eq_zero.1 e)
   omega
 have key:rat (decide (p.num<0) != decide (q.num<0)) (p.num.natAbs*q.den) (p.den*q.num.natAbs)*q=p:=by
   unfold rat
   rw [Dk',←EP]
   conv=>lhs;rhs;rw [←Rat.mkRat_self q]
   rw [Rat.mkRat_mul_mkRat]
   conv=>rhs;rw [←Rat.mkRat_self p]
   rw [Rat.mkRat_eq_iff (Nat.ne_of_gt (Nat.mul_pos (Nat.mul_pos p.den_pos hn) q.den_pos)) p.den_nz]
   have h2:=Ii' (decide (q.num<0)) q.den q.num.natAbs
   rw [←EP] at h2
   rw [Int.mul_assoc p.num,h2]
   push_cast
   grind
 generalize rat (decide (p.num<0) != decide (q.num<0)) (p.num.natAbs*q.den) (p.den*q.num.natAbs)=Q at key ⊢
 rw [←key]
 grind
theorem G5' {w:World} {vx vy:Value} {p q r:Rat} (h0:q≠0) (hr:p / q=r) (hx:Av' w vx p) (hy:Av' w vy q) (s1:len p.num.natAbs≤1073741824) (s2:len p.den≤1073741824) (s3:len q.num.natAbs≤1073741824) (s4:len q.den≤1073741824):Calls Tryz.prog 95 #[vx,vy] w (BW' w r):=by
 obtain ⟨A1,c1,A2,c2,rfl,h1,h2⟩:=hx.opened
 obtain ⟨A3,c3,A4,c4,rfl,h3,h4⟩:=hy.opened
 have hrat:=HQ' (p:=p) h0
 rw [hr] at hrat
 have hpos:0<p.den*q.num.natAbs:=Nat.mul_pos p.den_pos (by have:q.num≠0:=fun e=>h0 (Rat.num_eq_zero.1 e);omega)
 obtain ⟨b,hb⟩:=eY (decide (p.num<0))
 obtain ⟨d,hd⟩:=eY (decide (q.num<0))
 obtain ⟨N,hN⟩:=eY p.num.natAbs
 obtain ⟨D,hD⟩:=eY p.den
 obtain ⟨M,hM⟩:=eY q.num.natAbs
 obtain ⟨E,hE⟩:=eY q.den
 rw [hb,hd,hN,hD,hM,hE] at hrat
 rw [hN] at h1 s1
 rw [hD] at h2 s2
 rw [hM] at h3 s3
 rw [hE] at h4 s4
 rw [hD,hM] at hpos
 rw [hb,hd,hN,hD,hM,hE]
 obtain ⟨n1,hn1⟩:=eY (len N)
 obtain ⟨n2,hn2⟩:=eY (len D)
 obtain ⟨n3,hn3⟩:=eY (len M)
 obtain ⟨n4,hn4⟩:=eY (len E)
 have t1:=Aw N E
 have t2:=Aw D M
 have HT1:=fun (u:World) (hu:Below w.heap.size w u)=>Cy' (w:=u) (h1.keep hu) (h4.keep hu) (by omega) (by omega)
 have HT2:=fun (u:World) (hu:Below w.heap.size w u)=>Cy' (w:=u) (h2.keep hu) (h3.keep hu) (by omega) (by omega)
 have u1':len (N*E)≤68719476736:=by omega
 have u2':len (D*M)≤68719476736:=by omega
 obtain ⟨X,hX⟩:=eY (N*E)
 obtain ⟨Y,hY⟩:=eY (D*M)
 rw [hX] at HT1 hrat u1'
 rw [hY] at HT2 hrat u2' hpos
 rw [hn1,hn2,hn3,hn4]
 rw [hn1,hn4] at HT1;rw [hn2,hn3] at HT2
 replace HT1:=hid HT1
 replace HT2:=hid HT2
 replace hrat:=hid hrat
 replace u1':=hid u1'
 replace u2':=hid u2'
 replace hpos:=hid hpos
 clear hb hd hN hD hM hE hn1 hn2 hn3 hn4 t1 t2 hX hY h1 h2 h3 h4 s1 s2 s3 s4 hr hx hy h0
 obtain ⟨wB,hwB⟩:=eX (((w.alloc (.cells #[.bool b,.slice A1 n1 c1,.slice A2 n2 c2] 38)).alloc (.cells #[.bool d,.slice A3 n3 c3,.slice A4 n4 c4] 38)).alloc (.cells #[.bool false,.slice none 0 0,.slice none 0 0] 38))
 obtain ⟨R,hR⟩:=eY w.heap.size
 obtain ⟨wA,b0,hsA,bA,hRB,k0,k1,k2,j0,j1,j2⟩:=G4' hR _ hwB
 have hS:=hid (fun (u:World) (hu:RB wA (R+2) u) (b o:Nat) (hb:b<R+2)=>hu.1.cell (p:=⟨b,o,none⟩) hb)
 have hRA:=hid (fun (u:World) (hu:RB wA (R+2) u)=>Ae' b0 (show Below wA.heap.size wA u by rw [hsA];exact hu.1))
 obtain ⟨u0,hu0⟩:=eX wB.drew
 have hB0:=hid (show RB wA (R+2) u0 by rw [hu0];exact hRB.call (CS' wB))
 have HA:=hid (HT1.out u0 (hRA.out u0 hB0.out))
 have hRF:=hid (fun (u:World) (hu:Below (R+2) wA u)=>Ae' b0 (show Below wA.heap.size wA u by rw [hsA];exact hu))
 clear hRB bA HT1 hsA b0
 obtain ⟨mb,hmb⟩:=eY ((b != d))
 rw [hmb] at hrat
 have hmb2:=hid hmb
 clear hmb
 have hgo:True:=trivial
 · go_enter Tryz.func95,Tryz.ntmps95
   go_upto_region 1 with fail
   rw [←hwB]
   replace hR:=hid hR
   clear hwB
   refine wp_region_held_drew (S:=(fun w'=>(∀ b o,b<R+2→w'.cell? ⟨b,o,none⟩=wA.cell? ⟨b,o,none⟩))) (by kernel_rfl) ?_ (fun hHeld=>?_)
   · (try dsimp only)
     rw [←hu0]
     exact hS.out _ hB0.out
   rw [←hu0] at hHeld ⊢
   clear hu0
   refine tk (i:=0) (h:=?_)
   try simp only [Act.put,lt,ly,lu]
   refine tk (i:=1) (h:=?_)
   try simp only [Act.put,lt,ly,lu]
   refine tk (i:=2) (h:=?_)
   try simp only [Act.put,lt,ly,lu]
   refine tk (i:=3) (h:=?_)
   try simp only [Act.put,lt,ly,lu]
   refine tk (i:=4) (v:=.bool mb) (hy:=?_) (h:=?_)
   · refine Or.inl ⟨by rfl,?_⟩
     intro w hSw
     rw [←hmb2.out]
     cases b <;> cases d <;> (go_simp;try with_reducible rfl)
   try simp only [Act.put,lt,ly,lu]
   refine tk (i:=5) (h:=?_)
   try simp only [Act.put,lt,ly,lu]
   refine tk (i:=6) (h:=?_)
   try simp only [Act.put,lt,ly,lu]
   refine tk (i:=7) (h:=?_)
   try simp only [Act.put,lt,ly,lu]
   refine tk (i:=8) (h:=?_)
   try simp only [Act.put,lt,ly,lu]
   refine tk (i:=10) (h:=?_)
   try simp only [Act.put,lt,ly,lu]
   refine tk (i:=11) (h:=?_)
   try simp only [Act.put,lt,ly,lu]
   refine tk (i:=12) (h:=?_)
   try simp only [Act.put,lt,ly,lu]
   refine tk (i:=13) (h:=?_)
   try simp only [Act.put,lt,ly,lu]
   refine rd (i:=9) (h:=fun K hK=>?_)
   go_simp;go_at_call 123
   refine (HA.out).mono ?_
   rintro e w1 ⟨v1,rfl,hv1,b1⟩
   obtain ⟨B1,e1,rfl,-,-,-,-⟩:=id hv1
   replace hv1:=hid hv1

   have hB1:=hid (hB0.out.call b1)
   clear HA b1
   refine hK.out _ _ ?_ (fun hHeld2=>?_)
   · (try dsimp only)
     exact hS.out _ hB1.out
   clear hK K hHeld
   try simp only [Act.put,lt,ly,lu]
   have hHeld:=hHeld2
   clear hHeld2
   have HB:=hid (HT2.out w1 (hRA.out w1 hB1.out))
   clear HT2
   refine rd (i:=14) (h:=fun K hK=>?_)
   go_simp;go_at_call 123
   refine (HB.out).mono ?_
   rintro e w2 ⟨v2,rfl,hv2,b2⟩
   obtain ⟨B2,e2,rfl,-,-,-,-⟩:=id hv2
   replace hv2:=hid hv2

   have hB2:=hid (hB1.out.call b2)
   have hv1b:=hid (hv1.out.keep b2)
   clear HB b2 hv1
   refine hK.out _ _ ?_ (fun hHeld2=>?_)
   · (try dsimp only)
     exact hS.out _ hB2.out
   clear hK K hHeld
   try simp only [Act.put,lt,ly,lu]
   have hHeld:=hHeld2
   clear hHeld2
   have HM:=hid (G3' hrat.out hv1b.out hv2.out hpos.out u1'.out u2'.out)
   refine rd (i:=15) (h:=fun K hK=>?_)
   go_simp;go_at_call 124
   refine (HM.out).mono ?_
   rintro e w3 ⟨v3,rfl,hv3,b3⟩
   obtain ⟨B3,e3,B4,e4,rfl,g1,g2⟩:=hv3.opened
   replace g1:=hid g1
   replace g2:=hid g2

   have hB3:=hid (hB2.out.call b3)
   clear HM b3 hv3 hv1b hv2
   refine hK.out _ _ ?_ (fun hHeld2=>?_)
   · (try dsimp only)
     exact hS.out _ hB3.out
   clear hK K hHeld
   try simp only [Act.put,lt,ly,lu]
   have hHeld:=hHeld2
   clear hHeld2
   obtain ⟨sb,hsb⟩:=eY (decide (r.num<0))
   obtain ⟨m1,hm1⟩:=eY (len r.num.natAbs)
   obtain ⟨m2,hm2⟩:=eY (len r.den)
   rw [hm1] at g1 ⊢
   rw [hm2] at g2 ⊢
   rw [hsb]
   obtain ⟨hbF,⟨r0,r1,r2⟩,hkF⟩:=(hB3.out).store (b:=sb) (A:=B3) (n:=m1) (c:=e3) (A':=B4) (n':=m2) (c':=e4) _ rfl
   obtain ⟨x0,x1,x2,⟨l0,l1,l2⟩,f0,f1,f2⟩:=(hB3.out).cells
   have FIN:=hid (show Av' _ (.agg #[.bool sb,.slice B3 m1 e3,.slice B4 m2 e4]) r from ⟨_,_,by rw [hsb],hkF _ _ g1.out,hkF _ _ g2.out⟩)
   have FB:=hid hbF
   replace hsb:=hid hsb
   replace hm1:=hid hm1
   replace hm2:=hid hm2
   have hcells:=hid (fun (b o:Nat) (hb:b<R+2)=>FB.out.cell (p:=⟨b,o,none⟩) hb)
   clear hkF hbF
   refine rd (i:=16) (h:=fun K hK=>?_)
   go_simp
   refine hK.out _ _ ?_ (fun hHeld2=>?_)
   · (try dsimp only)
     exact hcells.out
   clear hK K hHeld hHeld2
   try simp only [Act.put,lt,ly,lu]
   refine wpAnyH_done (by kernel_rfl) ?_ _
   go_wp2_with fail
   refine bP (v:=.agg #[.bool sb,.slice B3 m1 e3,.slice B4 m2 e4]) ?_ rfl ⟨_,rfl,FIN.out,hRF.out _ FB.out⟩
   simp [results,Tryz.results95,go_sem,r0,r1,r2]
theorem HS' {w:World} {m:Nat} {n:Int} {q:Rat} (hn:n = -((m:Nat):Int)) (hq : -((m:Nat):Rat)=q) (h0:0<m) (hm:m≤9223372036854775808) :
   Calls Tryz.prog 96 #[.int .i64 n] w (BW' w q):=by
 obtain ⟨p1,p2,p3⟩:=En (q:=q) (b:=true) (m:=m) (by rw [Fo'];exact hq)
 rw [Bool.true_and,dT_ h0] at p3
 obtain ⟨wB,hwB⟩:=eX (w.alloc (.cells #[.bool false,.slice none 0 0,.slice none 0 0] 38))
 have hRB:=RB.start w
 rw [←hwB] at hRB
 obtain ⟨R,hR⟩:=eY w.heap.size
 rw [hR] at hRB
 have v1:decide (n<0)=true:=dT_ (by omega)
 have v2:n<0:=by omega
 obtain ⟨t,ht⟩:=eY (n+1:Int)
 obtain ⟨k,hk⟩:∃ k:Nat,m=k+1:=⟨m - 1,by omega⟩
 have w1:IntKind.i64.wrap (n+1)=t:=by rw [IntKind.wrap_i64];omega
 have w2:IntKind.i64.wrap (-t)=((k:Nat):Int):=by rw [IntKind.wrap_i64];omega
 have w3:IntKind.u64.wrap ((k:Nat):Int)=((k:Nat):Int):=by rw [IntKind.wrap_u64];omega
 have w4:IntKind.u64.wrap (((k:Nat):Int)+1)=((m:Nat):Int):=by rw [IntKind.wrap_u64];omega
 have HO:=hid (Gt' (w:=wB) (n:=m) (by omega))
 replace hRB:=hid hRB
 replace p1:=hid p1
 replace p2:=hid p2
 replace p3:=hid p3
 clear hq hm h0 ht hk hn
 go_enter Tryz.func96,Tryz.ntmps96
 go_upto_region 1 with fail
 rw [←hwB]
 replace hR:=hid hR
 clear hwB
 go_wp2_with fail
 refine (HO.out).mono ?_
 rintro e w1 ⟨v,rfl,hv,b1⟩
 obtain ⟨A,c,rfl,-,-,-,-⟩:=id hv
 have hone:=hid (D5' w1)
 have b2:=An w1 (.cells #[.int .i64 1] 3)
 have hRB2:=hid ((hRB.out.call b1).call b2)
 have hv2:=hid (hv.keep b2)
 clear hv b1 b2 hRB HO
 obtain ⟨hbF,⟨r0,r1,r2⟩,hkF⟩:=(hRB2.out).store (b:=true) (A:=A) (n:=len m) (c:=c) (A':=some ⟨w1.heap.size,0,none⟩) (n':=1) (c':=1) _ rfl
 obtain ⟨u0,u1,u2,⟨k0,k1,k2⟩,f0,f1,f2⟩:=(hRB2.out).cells
 have F:=hid (show Av' _ (.agg #[.bool true,.slice A (len m) c,.slice (some ⟨w1.heap.size,0,none⟩) 1 1]) q from ⟨_,_,by rw [p3.out],by rw [p1.out];exact hkF _ _ hv2.out,by rw [p2.out];exact hkF _ _ hone.out⟩)
 have FB:=hid hbF
 clear hbF hkF
 go_wp2_with fail
 refine bP (v:=.agg #[.bool true,.slice A (len m) c,.slice (some ⟨w1.heap.size,0,none⟩) 1 1]) ?_ rfl ⟨_,rfl,F.out,by rw [hR.out];exact FB.out⟩
 simp [results,Tryz.results96,go_sem,r0,r1,r2]
theorem Fp' {w:World} {n:Int} {q:Rat} (hq:(n:Rat)=q) (h1 : -9223372036854775808≤n) (h2:n≤9223372036854775807):Calls Tryz.prog 96 #[.int .i64 n] w (BW' w q):=by
 rcases (show n<0∨0≤n by omega) with h | h
 · obtain ⟨m,hm⟩:∃ m:Nat,n = -((m:Nat):Int):=⟨n.natAbs,by omega⟩
   refine HS' hm ?_ (by omega) (by omega)
   rw [←hq,hm,Rat.intCast_neg];rfl
 · obtain ⟨m,rfl⟩:∃ m:Nat,n=((m:Nat):Int):=⟨n.natAbs,by omega⟩
   exact HO' (by rw [←hq];rfl) (by omega)
theorem En' {n:Int} {q:Rat} (hq:(n:Rat)=q) (h1 : -9223372036854775808≤n) (h2:n≤9223372036854775807):len q.num.natAbs≤4∧len q.den≤4:=by
 rw [←hq,Rat.num_intCast,Rat.den_intCast]
 exact ⟨Ax (show _<18446744073709551616 by omega),Ax (show 1<18446744073709551616 by omega)⟩
theorem Gu {w:World} {a b:Int} {q:Rat} (hq:(a:Rat) / (b:Rat)=q) (hb:b≠0) (h1 : -9223372036854775808≤a) (h2:a≤9223372036854775807) (h3 : -9223372036854775808≤b) (h4:b≤9223372036854775807) :
   Calls Tryz.prog 56 #[.int .i64 a,.int .i64 b] w (BW' w q):=by
 obtain ⟨x,hx⟩:=eY ((a:Rat):Rat)
 obtain ⟨y,hy⟩:=eY ((b:Rat):Rat)
 have hy0:y≠0:=by
   rw [←hy]
   intro e
   exact hb (Rat.intCast_inj.1 (e.trans Rat.intCast_zero.symm))
 rw [hx,hy] at hq
 obtain ⟨s1,s2⟩:=En' hx h1 h2
 obtain ⟨s3,s4⟩:=En' hy h3 h4
 obtain ⟨wB,hwB⟩:=eX (w.alloc (.cells #[.bool false,.slice none 0 0,.slice none 0 0] 38))
 have hRB:=RB.start w
 rw [←hwB] at hRB
 obtain ⟨R,hR⟩:=eY w.heap.size
 rw [hR] at hRB
 have HI:=hid (fun u:World=>Fp' (w:=u) hx h1 h2)
 have HJ:=hid (fun u:World=>Fp' (w:=u) hy h3 h4)
 have HD:=hid (fun (u:World) (v1 v2:Value) (i1:Av' u v1 x) (i2:Av' u v2 y)=>G5' hy0 hq i1 i2 (nT s1 (by decide)) (nT s2 (by decide)) (nT s3 (by decide)) (nT s4 (by decide)))
 replace hRB:=hid hRB
 clear hx hy hy0 hq s1 s2 s3 s4 hb h1 h2 h3 h4
 go_enter Tryz.func56,Tryz.ntmps56
 go_upto_region 1 with fail
 rw [←hwB]
 replace hR:=hid hR
 clear hwB
 go_wp2_with fail
 refine (HI.out _).mono ?_
 rintro e w1 ⟨v1,rfl,hv1,b1⟩
 obtain ⟨A1,c1,A2,c2,rfl,-,-⟩:=id hv1.opened
 replace hv1:=hid hv1
 replace b1:=hid b1
 clear HI
 go_wp2_with fail
 refine (HJ.out _).mono ?_
 rintro e w2 ⟨v2,rfl,hv2,b2⟩
 obtain ⟨A3,c3,A4,c4,rfl,-,-⟩:=id hv2.opened
 replace hv2:=hid hv2
 replace b2:=hid b2
 clear HJ
 have HE:=hid (HD.out _ _ _ (hv1.out.keep b2.out) hv2.out)
 clear HD
 go_wp2_with fail
 refine (HE.out).mono ?_
 rintro e w3 ⟨v3,rfl,hv3,b3⟩
 obtain ⟨B3,e3,B4,e4,rfl,g1,g2⟩:=hv3.opened
 replace g1:=hid g1
 replace g2:=hid g2
 have hB3:=hid (((hRB.out.call b1.out).call b2.out).call b3)
 clear HE hv1 hv2 hv3 b1 b2 b3
 obtain ⟨sb,hsb⟩:=eY (decide (q.num<0))
 obtain ⟨m1,hm1⟩:=eY (len q.num.natAbs)
 obtain ⟨m2,hm2⟩:=eY (len q.den)
 rw [hm1] at g1 ⊢
 rw [hm2] at g2 ⊢
 rw [hsb]
 obtain ⟨hbF,⟨r0,r1,r2⟩,hkF⟩:=(hB3.out).store (b:=sb) (A:=B3) (n:=m1) (c:=e3) (A':=B4) (n':=m2) (c':=e4) _ rfl
 obtain ⟨x0,x1,x2,⟨l0,l1,l2⟩,f0,f1,f2⟩:=(hB3.out).cells
 have FIN:=hid (show Av' _ (.agg #[.bool sb,.slice B3 m1 e3,.slice B4 m2 e4]) q from ⟨_,_,by rw [hsb],hkF _ _ g1.out,hkF _ _ g2.out⟩)
 have FB:=hid hbF
 replace hsb:=hid hsb
 replace hm1:=hid hm1
 replace hm2:=hid hm2
 clear hkF hbF
 go_wp2_with fail
 refine bP (v:=.agg #[.bool sb,.slice B3 m1 e3,.slice B4 m2 e4]) ?_ rfl ⟨_,rfl,FIN.out,by rw [hR.out];exact FB.out⟩
 simp [results,Tryz.results56,go_sem,r0,r1,r2]
theorem box2 {w:World} {b d:Bool} {A A' B B':Option Addr} {n c n' c' m e m' e' R:Nat} (hR:w.heap.size=R):∀ u,u=(w.alloc (.cells #[.bool b,.slice A n c,.slice A' n' c'] 38)).alloc (.cells #[.bool d,.slice B m e,.slice B' m' e'] 38) →
   Below w.heap.size w u∧u.heap.size=R+2∧u.cell? ⟨R,0,none⟩=some (.bool b)∧u.cell? ⟨R,1,none⟩=some (.slice A n c)∧u.cell? ⟨R,2,none⟩=some (.slice A' n' c') ∧
     u.cell? ⟨R+1,0,none⟩=some (.bool d)∧u.cell? ⟨R+1,1,none⟩=some (.slice B m e)∧u.cell? ⟨R+1,2,none⟩=some (.slice B' m' e'):=by
 intro u hu
 obtain ⟨w1,hw1⟩:=eX (w.alloc (.cells #[.bool b,.slice A n c,.slice A' n' c'] 38))
 rw [←hw1] at hu
 obtain ⟨b0,k0,k1,k2⟩:=FM' _ hw1
 have hs1:w1.heap.size=R+1:=by rw [hw1,World.size_alloc,hR]
 obtain ⟨b1,j0,j1,j2⟩:=FM' _ hu
 have hs:u.heap.size=R+2:=by rw [hu,World.size_alloc,hs1]
 rw [hR] at k0 k1 k2
 rw [hs1] at j0 j1 j2
 have hl:R<w1.heap.size:=by omega
 exact ⟨Ae' b0 b1,hs,(b1.cell (p:=⟨R,0,none⟩) hl).trans k0,(b1.cell (p:=⟨R,1,none⟩) hl).trans k1,(b1.cell (p:=⟨R,2,none⟩) hl).trans k2,j0,j1,j2⟩
theorem Ij {p q:Rat} (h:p.num<0) (k:¬ q.num<0):cmpQ p q = -1:=by
 have h1:p.num*(q.den:Int)<0:=Int.mul_neg_of_neg_of_pos h (by have:=q.den_pos;omega)
 have h2:0≤q.num*(p.den:Int):=Int.mul_nonneg (by omega) (by omega)
 rw [B1'];unfold AS;rw [if_pos (by omega)]
theorem Ij' {p q:Rat} (h:¬ p.num<0) (k:q.num<0):cmpQ p q=1:=by
 have h1:q.num*(p.den:Int)<0:=Int.mul_neg_of_neg_of_pos k (by have:=p.den_pos;omega)
 have h2:0≤p.num*(q.den:Int):=Int.mul_nonneg (by omega) (by omega)
 rw [B1'];unfold AS;rw [if_neg (by omega),if_neg (by omega)]
theorem G6 {p q:Rat} (h:decide (p.num<0)=decide (q.num<0)):cmpQ p q=if decide (p.num<0)=true then -Ao (p.num.natAbs*q.den) (q.num.natAbs*p.den) else Ao (p.num.natAbs*q.den) (q.num.natAbs*p.den):=by
 rw [B1']
 by_cases k:p.num<0
 · have k2:q.num<0:=by rw [dT_ k] at h;exact of_decide_eq_true h.symm
   rw [if_pos (dT_ k)]
   have e1:p.num*(q.den:Int) = -((p.num.natAbs*q.den:Nat):Int):=by
     rw [Int.natCast_mul,←Int.neg_mul];congr 1;omega
   have e2:q.num*(p.den:Int) = -((q.num.natAbs*p.den:Nat):Int):=by
     rw [Int.natCast_mul,←Int.neg_mul];congr 1;omega
   rw [e1,e2]
   generalize p.num.natAbs*q.den=x
   generalize q.num.natAbs*p.den=y
   rcases Nat.lt_trichotomy x y with l | l | l
   · rw [Br' l];unfold AS;rw [if_neg (by omega),if_neg (by omega)];rfl
   · subst l;rw [B5'];unfold AS;rw [if_neg (by omega),if_pos rfl];rfl
   · rw [B4' l];unfold AS;rw [if_pos (by omega)]
 · have k2:¬ q.num<0:=by rw [dF_ k] at h;exact of_decide_eq_false h.symm
   rw [if_neg (by rw [dF_ k];decide)]
   have e1:p.num*(q.den:Int)=((p.num.natAbs*q.den:Nat):Int):=by
     rw [Int.natCast_mul];congr 1;omega
   have e2:q.num*(p.den:Int)=((q.num.natAbs*p.den:Nat):Int):=by
     rw [Int.natCast_mul];congr 1;omega
   rw [e1,e2]
   generalize p.num.natAbs*q.den=x
   generalize q.num.natAbs*p.den=y
   rcases Nat.lt_trichotomy x y with l | l | l
   · rw [Br' l];unfold AS;rw [if_pos (by omega)]
   · subst l;rw [B5'];unfold AS;rw [if_neg (by omega),if_pos rfl]
   · rw [B4' l];unfold AS;rw [if_neg (by omega),if_neg (by omega)]
theorem G6' {w:World} {vx vy:Value} {p q:Rat} {r:Int} (hr:cmpQ p q=r) (hx:Av' w vx p) (hy:Av' w vy q) (s1:len p.num.natAbs≤1073741824) (s2:len p.den≤1073741824) (s3:len q.num.natAbs≤1073741824) (s4:len q.den≤1073741824):Calls Tryz.prog 94 #[vx,vy] w (Hn' w r):=by
 obtain ⟨A1,c1,A2,c2,rfl,h1,h2⟩:=hx.opened
 obtain ⟨A3,c3,A4,c4,rfl,h3,h4⟩:=hy.opened
 have f1:=@Ij p q
 have f2:=@Ij' p q
 have f3:=@G6 p q
 rw [hr] at f1 f2 f3
 have f1':decide (p.num<0)=true→decide (q.num<0)=false→r = -1:=fun a b=>f1 (of_decide_eq_true a) (of_decide_eq_false b)
 have f2':decide (p.num<0)=false→decide (q.num<0)=true→r=1:=fun a b=>f2 (of_decide_eq_false a) (of_decide_eq_true b)
 clear f1 f2
 obtain ⟨b,hb⟩:=eY (decide (p.num<0))
 obtain ⟨d,hd⟩:=eY (decide (q.num<0))
 obtain ⟨N,hN⟩:=eY p.num.natAbs
 obtain ⟨D,hD⟩:=eY p.den
 obtain ⟨M,hM⟩:=eY q.num.natAbs
 obtain ⟨E,hE⟩:=eY q.den
 rw [hb,hd] at f1' f2' f3
 rw [hN,hD,hM,hE] at f3
 rw [hN] at h1 s1
 rw [hD] at h2 s2
 rw [hM] at h3 s3
 rw [hE] at h4 s4
 rw [hb,hd,hN,hD,hM,hE]
 obtain ⟨n1,hn1⟩:=eY (len N)
 obtain ⟨n2,hn2⟩:=eY (len D)
 obtain ⟨n3,hn3⟩:=eY (len M)
 obtain ⟨n4,hn4⟩:=eY (len E)
 have t1:=Aw N E
 have t2:=Aw M D
 have HT1:=fun (u:World) (hu:Below w.heap.size w u)=>Cy' (w:=u) (h1.keep hu) (h4.keep hu) (by omega) (by omega)
 have HT2:=fun (u:World) (hu:Below w.heap.size w u)=>Cy' (w:=u) (h3.keep hu) (h2.keep hu) (by omega) (by omega)
 have u1':len (N*E)≤1099511627776:=by omega
 have u2':len (M*D)≤1099511627776:=by omega
 obtain ⟨X,hX⟩:=eY (N*E)
 obtain ⟨Y,hY⟩:=eY (M*D)
 rw [hX] at HT1 u1' f3
 rw [hY] at HT2 u2' f3
 rw [hn1,hn2,hn3,hn4]
 rw [hn1,hn4] at HT1
 rw [hn3,hn2] at HT2
 replace HT1:=hid HT1
 replace HT2:=hid HT2
 replace u1':=hid u1'
 replace u2':=hid u2'
 replace f1':=hid f1'
 replace f2':=hid f2'
 replace f3:=hid f3
 clear hb hd hN hD hM hE hn1 hn2 hn3 hn4 t1 t2 hX hY h1 h2 h3 h4 s1 s2 s3 s4 hr hx hy
 obtain ⟨wB,hwB⟩:=eX ((w.alloc (.cells #[.bool b,.slice A1 n1 c1,.slice A2 n2 c2] 38)).alloc (.cells #[.bool d,.slice A3 n3 c3,.slice A4 n4 c4] 38))
 obtain ⟨R,hR⟩:=eY w.heap.size
 obtain ⟨b0,hsB,k0,k1,k2,j0,j1,j2⟩:=box2 hR _ hwB
 replace b0:=hid b0
 have hcases:(b=true∧d=false)∨(b=false∧d=true)∨d=b:=by cases b <;> cases d <;> simp
 rcases hcases with ⟨rfl,rfl⟩ | ⟨rfl,rfl⟩ | rfl
 · obtain rfl:=f1'.out rfl rfl
   go_enter Tryz.func94,Tryz.ntmps94
   go_upto_region 1 with fail
   rw [←hwB]
   clear hwB hR hsB
   go_wp2_with fail
   go_ret
   exact ⟨rfl,b0.out⟩
 · obtain rfl:=f2'.out rfl rfl
   go_enter Tryz.func94,Tryz.ntmps94
   go_upto_region 1 with fail
   rw [←hwB]
   clear hwB hR hsB
   go_wp2_with fail
   go_ret
   exact ⟨rfl,b0.out⟩
 · have f4:=hid (f3.out rfl)
   have hS:=hid (fun (u:World) (hu:Below wB.heap.size wB u) (b o:Nat) (hb:b<R+2)=>hu.cell (p:=⟨b,o,none⟩) (by rw [hsB];exact hb))
   obtain ⟨u0,hu0⟩:=eX wB.drew
   have hB0:=hid (show Below wB.heap.size wB u0 by rw [hu0];exact CS' wB)
   have HA:=hid (HT1.out u0 (Ae' b0.out hB0.out))
   replace hsB:=hid hsB
   clear f1' f2' f3 HT1
   go_enter Tryz.func94,Tryz.ntmps94
   go_upto_region 1 with fail
   rw [←hwB]
   replace hR:=hid hR
   clear hwB
   go_wp2_with fail
   refine wp_region_held_drew (S:=(fun w'=>(∀ b o,b<R+2→w'.cell? ⟨b,o,none⟩=wB.cell? ⟨b,o,none⟩))) (by kernel_rfl) ?_ (fun hHeld=>?_)
   · (try dsimp only)
     rw [←hu0]
     exact hS.out _ hB0.out
   rw [←hu0] at hHeld ⊢
   clear hu0
   refine tk (i:=0) (h:=?_)
   try simp only [Act.put,lt,ly,lu]
   refine tk (i:=1) (h:=?_)
   try simp only [Act.put,lt,ly,lu]
   refine tk (i:=2) (h:=?_)
   try simp only [Act.put,lt,ly,lu]
   refine tk (i:=3) (h:=?_)
   try simp only [Act.put,lt,ly,lu]
   refine tk (i:=5) (h:=?_)
   try simp only [Act.put,lt,ly,lu]
   refine tk (i:=6) (h:=?_)
   try simp only [Act.put,lt,ly,lu]
   refine tk (i:=7) (h:=?_)
   try simp only [Act.put,lt,ly,lu]
   refine tk (i:=8) (h:=?_)
   try simp only [Act.put,lt,ly,lu]
   refine rd (i:=4) (h:=fun K hK=>?_)
   go_simp;go_at_call 123
   refine (HA.out).mono ?_
   rintro e w1 ⟨v1,rfl,hv1,b1⟩
   obtain ⟨B1,e1,rfl,-,-,-,-⟩:=id hv1
   replace hv1:=hid hv1

   have hB1:=hid (Ae' hB0.out b1)
   clear HA b1
   refine hK.out _ _ ?_ (fun hHeld2=>?_)
   · (try dsimp only)
     exact hS.out _ hB1.out
   clear hK K hHeld
   try simp only [Act.put,lt,ly,lu]
   have hHeld:=hHeld2
   clear hHeld2
   have HB:=hid (HT2.out w1 (Ae' b0.out hB1.out))
   clear HT2
   refine rd (i:=9) (h:=fun K hK=>?_)
   go_simp;go_at_call 123
   refine (HB.out).mono ?_
   rintro e w2 ⟨v2,rfl,hv2,b2⟩
   obtain ⟨B2,e2,rfl,-,-,-,-⟩:=id hv2
   replace hv2:=hid hv2

   have hB2:=hid (Ae' hB1.out b2)
   have hv1b:=hid (hv1.out.keep b2)
   clear HB b2 hv1
   refine hK.out _ _ ?_ (fun hHeld2=>?_)
   · (try dsimp only)
     exact hS.out _ hB2.out
   clear hK K hHeld
   try simp only [Act.put,lt,ly,lu]
   have hHeld:=hHeld2
   clear hHeld2
   have HM:=hid (Cb hv1b.out hv2.out u1'.out u2'.out)
   refine rd (i:=10) (h:=fun K hK=>?_)
   go_simp;go_at_call 122
   refine (HM.out).mono ?_
   rintro e w3 ⟨rfl,rfl⟩

   clear HM
   refine hK.out _ _ ?_ (fun hHeld2=>?_)
   · (try dsimp only)
     exact hS.out _ hB2.out
   clear hK K hHeld
   try simp only [Act.put,lt,ly,lu]
   have hHeld:=hHeld2
   clear hHeld2
   refine tk (i:=11) (h:=?_)
   try simp only [Act.put,lt,ly,lu]
   refine wpAnyH_done (by kernel_rfl) ?_ _
   have kk0:w2.cell? ⟨R,0,none⟩=some (.bool d):=(hS.out _ hB2.out R 0 (by omega)).trans k0
   have hcb : -1≤Ao X Y∧Ao X Y≤1:=by
     unfold Ao
     split
     · omega
     · split <;> omega
   obtain ⟨cc,hcc⟩:=eY (Ao X Y)
   rw [hcc] at f4 hcb ⊢
   obtain ⟨hc1,hc2⟩:=hcb
   have hw:IntKind.i64.wrap (-cc) = -cc:=by rw [IntKind.wrap_i64];omega
   clear hHeld hS k0 k1 k2 j0 j1 j2 hcc
   rcases d with _ | _
   · have e9:=f4.out
     rw [if_neg (by decide)] at e9
     subst e9
     go_wp2_with fail
     go_ret
     exact ⟨rfl,Ae' b0.out hB2.out⟩
   · have e9:=f4.out
     rw [if_pos rfl] at e9
     subst e9
     go_wp2_with fail
     go_ret
     exact ⟨rfl,Ae' b0.out hB2.out⟩
end Go.Proofs.YtcicfnlljdnagaaGreatDoor.Rf
namespace Go.Proofs.YtcicfnlljdnagaaGreatDoor
open Lib (hid)
open Go.RowKit
open Vx
theorem Cq {w:World} {vx vy:Value} {x y q:Rat} (hq:x+y=q) (hx:Ad' w vx x) (hy:Ad' w vy y) (hs:Ab' x≤536870912) (ht:Ab' y≤536870912) :
   Calls Tryz.prog 12 #[vx,vy] w (Ao' w q):=by rw [←hq];exact CP hx hy (nT hs (by omega)) (nT ht (by omega))
theorem A9' {w:World} {vx vy:Value} {x y q:Rat} (hq:x - y=q) (hx:Ad' w vx x) (hy:Ad' w vy y) (hs:Ab' x≤536870912) (ht:Ab' y≤536870912) :
   Calls Tryz.prog 10 #[vx,vy] w (Ao' w q):=by rw [←hq];exact DK' hx hy (nT hs (by omega)) (nT ht (by omega))
theorem B7' {w:World} {vx vy:Value} {x y q:Rat} (hq:x*y=q) (hx:Ad' w vx x) (hy:Ad' w vy y) (hs:Ab' x≤536870912) (ht:Ab' y≤536870912) :
   Calls Tryz.prog 13 #[vx,vy] w (Ao' w q):=by rw [←hq];exact BE hx hy (nT hs (by omega)) (nT ht (by omega))
theorem HT' {w:World} {vx vy:Value} {x y q:Rat} {c:Int} (hq:x / y=q) (hc:(if y=0 then 10 else 0)=c) (hx:Ad' w vx x) (hy:Ad' w vy y) (hs:Ab' x≤536870912) (ht:Ab' y≤536870912) :
   Calls Tryz.prog 11 #[vx,vy] w (Bl w q c):=by rw [←hq,←hc];exact CP' hx hy (nT hs (by omega)) (nT ht (by omega))
theorem BQ' {w:World} {vx:Value} {x:Rat} {n:Int} (hn:x.num.sign=n) (hx:Ad' w vx x):Calls Tryz.prog 31 #[vx] w (AP' w n):=by rw [←hn];exact AM' hx
theorem Ba' {w:World} {vx vy:Value} {x y:Rat} {n:Int} (hn:cmpQ x y=n) (hx:Ad' w vx x) (hy:Ad' w vy y) (hs:Ab' x≤536870912) (ht:Ab' y≤536870912) :
   Calls Tryz.prog 21 #[vx,vy] w (AP' w n):=by rw [←hn];exact AT hx hy (nT hs (by omega)) (nT ht (by omega))
end Go.Proofs.YtcicfnlljdnagaaGreatDoor
namespace Go.Proofs.YtcicfnlljdnagaaGreatDoor.Rf
open Lib (hid)
open Go.RowKit
open Rx
open Vx (Ab' Ah Ah')
theorem Dm' {q:Rat} (h:Ab' q≤268435456):len q.num.natAbs≤1073741824∧len q.den≤1073741824:=by
 have h1:=Ah q
 have h2:=Ah' q
 have h3:=Fp q.num.natAbs
 have h4:=Fp q.den
 omega
theorem CU {w:World} {vx vy:Value} {p q:Rat} {r:Int} (hr:cmpQ p q=r) (hx:Av' w vx p) (hy:Av' w vy q) (s1:Ab' p≤268435456) (s2:Ab' q≤268435456) :
   Calls Tryz.prog 94 #[vx,vy] w (Hn' w r):=G6' hr hx hy (Dm' s1).1 (Dm' s1).2 (Dm' s2).1 (Dm' s2).2
end Go.Proofs.YtcicfnlljdnagaaGreatDoor.Rf
namespace Go.Proofs.YtcicfnlljdnagaaGreatDoor
open Lib (hid)
open Go.RowKit
open Vx
open List renaming getElem?_toArray → lg, getElem?_cons_zero → lz, getElem?_cons_succ → ls, setIfInBounds_toArray → lt, set_cons_zero → ly, set_cons_succ → lu
theorem tk {P:Program} {ops:Array Oper} {Q:Exit→Act→World→Prop} {md:Region.Mode} {S:World→Prop} {i:Nat} {oi:Oper} {v:Value} {fuel:Nat} {listed:Array Bool} {a:Act} {w:World} (hi:ops[i]?=some oi:=by simp only [lg,lz,ls];rfl)
   (hb:(Region.noSelect ops && (Region.free md ops listed i && (Region.ready md ops listed).contains i))=true:=by kernel_rfl) (hQ:∀ c a w,Q (.panic c) (a.put oi.dst v) w→Q (.panic c) a w:=by exact fun _ _ _ h=>h) (hS:S w:=by assumption) (hy:YieldsIf P ops S oi v a:=by refine Or.inl ⟨by rfl,?_⟩;intro w hSw;(try dsimp only at hSw);go_simp;try with_reducible rfl)
   (h:wpAnyH P md ops Q S fuel (listed.setIfInBounds i true) (a.put oi.dst v) w):wpAnyH P md ops Q S (fuel+1) listed a w:=by
 rw [Bool.and_eq_true,Bool.and_eq_true] at hb
 exact wpAnyH_take hi hb.1 hb.2.1 hb.2.2 hQ hy hS h
theorem Af' {u:World} {n:Nat} {o:Obj} (h:u.heap[n]?=some o):n<u.heap.size:=(gE.1 h).1
theorem Ac' {u u':World} {n:Nat} {o:Obj} (h:u.heap[n]?=some o) (hb:Below u.heap.size u u'):u'.heap[n]?=some o:=(hb.block _ (Af' h)).trans h
end Go.Proofs.YtcicfnlljdnagaaGreatDoor
namespace Go.Proofs.YtcicfnlljdnagaaGreatDoor.Rf
open Lib (hid)
open Go.RowKit
open Rx
open Vx (Ab' Ah Ah')
open List renaming getElem?_toArray → lg, getElem?_cons_zero → lz, getElem?_cons_succ → ls, setIfInBounds_toArray → lt, set_cons_zero → ly, set_cons_succ → lu
def A6' (w w':World):Prop:=Aj' w w'∧∀ v z,Am' w v z→Am' w' v z
theorem A6'.refl (w:World):A6' w w:=⟨fun _ _ h=>h,fun _ _ h=>h⟩
theorem A6'.trans {w w' w'':World} (h:A6' w w') (k:A6' w' w''):A6' w w'':=⟨fun v q a=>k.1 v q (h.1 v q a),fun v q a=>k.2 v q (h.2 v q a)⟩
theorem Be' {w w' w'':World} (h:Aj' w w') (k:A6' w' w''):Aj' w w'':=fun v q a=>k.1 v q (h v q a)
theorem A6'.num {w w':World} {v:Value} {q:Rat} (h:A6' w w') (hq:Ad' w v q):Ad' w' v q:=h.1.num hq
theorem A6'.rat {w w':World} {v:Value} {q:Rat} (h:A6' w w') (hq:Av' w v q):Av' w' v q:=by
 obtain ⟨v1,v2,e,h1,h2⟩:=hq
 exact ⟨v1,v2,e,h.2 _ _ h1,h.2 _ _ h2⟩
theorem A6'.box {w w':World} {v:Value} {a b:Rat} (h:A6' w w') (hq:Aj w v a b):Aj w' v a b:=by
 obtain ⟨v1,v2,v3,v4,e,h1,h2,h3,h4⟩:=hq
 exact ⟨v1,v2,v3,v4,e,h.1 _ _ h1,h.1 _ _ h2,h.1 _ _ h3,h.1 _ _ h4⟩
def Bo' (w:World) (v:Value) (a b:Rat):Prop :=
  ∃ v1 v2 v3 v4,v=.agg #[.bool (decide (a.num<0)),v1,v2,.bool (decide (b.num<0)),v3,v4]∧Am' w v1 a.num.natAbs∧Am' w v2 a.den∧Am' w v3 b.num.natAbs∧Am' w v4 b.den
theorem Bo'.keep {w w':World} {v:Value} {a b:Rat} (h:Bo' w v a b) (hb:Below w.heap.size w w'):Bo' w' v a b:=by
 obtain ⟨v1,v2,v3,v4,h0,h1,h2,h3,h4⟩:=h
 exact ⟨v1,v2,v3,v4,h0,h1.keep hb,h2.keep hb,h3.keep hb,h4.keep hb⟩
theorem A6'.rbox {w w':World} {v:Value} {a b:Rat} (h:A6' w w') (hq:Bo' w v a b):Bo' w' v a b:=by
 obtain ⟨v1,v2,v3,v4,e,h1,h2,h3,h4⟩:=hq
 exact ⟨v1,v2,v3,v4,e,h.2 _ _ h1,h.2 _ _ h2,h.2 _ _ h3,h.2 _ _ h4⟩
theorem Bo'.opened {w:World} {v:Value} {a b:Rat} (h:Bo' w v a b):∃ A1 c1 A2 c2 A3 c3 A4 c4,
   v=.agg #[.bool (decide (a.num<0)),.slice A1 (len a.num.natAbs) c1,.slice A2 (len a.den) c2,.bool (decide (b.num<0)),.slice A3 (len b.num.natAbs) c3,.slice A4 (len b.den) c4] ∧
   Av' w (.agg #[.bool (decide (a.num<0)),.slice A1 (len a.num.natAbs) c1,.slice A2 (len a.den) c2]) a∧Av' w (.agg #[.bool (decide (b.num<0)),.slice A3 (len b.num.natAbs) c3,.slice A4 (len b.den) c4]) b:=by
 obtain ⟨v1,v2,v3,v4,rfl,h1,h2,h3,h4⟩:=h
 obtain ⟨A1,c1,rfl,-⟩:=id h1
 obtain ⟨A2,c2,rfl,-⟩:=id h2
 obtain ⟨A3,c3,rfl,-⟩:=id h3
 obtain ⟨A4,c4,rfl,-⟩:=id h4
 exact ⟨A1,c1,A2,c2,A3,c3,A4,c4,rfl,⟨_,_,rfl,h1,h2⟩,⟨_,_,rfl,h3,h4⟩⟩
theorem Av'.pair {w:World} {A1 c1 A2 c2 A3 c3 A4 c4} {a b:Rat} {n1 n2 n3 n4:Nat} {s1 s2:Bool} (h1:Av' w (.agg #[.bool s1,.slice A1 n1 c1,.slice A2 n2 c2]) a) (h2:Av' w (.agg #[.bool s2,.slice A3 n3 c3,.slice A4 n4 c4]) b) :
   Bo' w (.agg #[.bool s1,.slice A1 n1 c1,.slice A2 n2 c2,.bool s2,.slice A3 n3 c3,.slice A4 n4 c4]) a b:=by
 obtain ⟨u1,u2,e1,h3,h4⟩:=h1
 obtain ⟨u3,u4,e2,h5,h6⟩:=h2
 simp only [Value.agg.injEq,Array.mk.injEq,List.cons.injEq,Value.bool.injEq,and_true] at e1 e2
 obtain ⟨rfl,rfl,rfl⟩:=e1
 obtain ⟨rfl,rfl,rfl⟩:=e2
 exact ⟨_,_,_,_,rfl,h3,h4,h5,h6⟩
def D6 (w:World) (a b:Rat) (e:Ending) (w':World):Prop:=∃ v,e=.returned v∧Bo' w' v a b∧Below w.heap.size w w'
theorem HU' {b b':Bool} {A1 A2 A3 A4:Option Addr} {n1 c1 n2 c2 n3 c3 n4 c4:Nat}:Cw' #[.bool b,.slice A1 n1 c1,.slice A2 n2 c2,.bool b',.slice A3 n3 c3,.slice A4 n4 c4]:=by
 intro i k n
 match i with
 | 0=>simp
 | 1=>simp
 | 2=>simp
 | 3=>simp
 | 4=>simp
 | 5=>simp
 | i+6=>simp
theorem BG {b b':Bool} {A1 A2 A3 A4:Option Addr} {n1 c1 n2 c2 n3 c3 n4 c4:Nat}:∀ (i:Nat) (k:Int),(#[.bool b,.slice A1 n1 c1,.slice A2 n2 c2,.bool b',.slice A3 n3 c3,.slice A4 n4 c4]:Array Value)[i]?≠some (.int .i64 k):=by
 intro i k
 match i with
 | 0=>simp
 | 1=>simp
 | 2=>simp
 | 3=>simp
 | 4=>simp
 | 5=>simp
 | i+6=>simp
theorem As' {w w':World} {b:Nat} {T:TypeId} {s1 t1:Bool} {A1 B1 A2 B2:Option Addr} {n1 c1 m1 d1 n2 c2 m2 d2:Nat} (L:w.heap[b]?=some (.cells #[.bool t1,.slice B1 m1 d1,.slice B2 m2 d2] T (0,0))) (hw:w'=(((w.setCell ⟨b,0,none⟩ (.bool s1)).setCell ⟨b,1,none⟩ (.slice A1 n1 c1)).setCell ⟨b,2,none⟩ (.slice A2 n2 c2))) :
   w'.heap[b]?=some (.cells #[.bool s1,.slice A1 n1 c1,.slice A2 n2 c2] T (0,0))∧(∀ (n:Nat) (o:Obj),n≠b→w.heap[n]?=some o→w'.heap[n]?=some o)∧A6' w w'∧(∀ (N:Nat) (wB:World),N≤b→Below N wB w→Below N wB w'):=by
 have g1:=heap_setCell_same w b 0 _ _ (.bool s1) L
 have g2:=heap_setCell_same _ b 1 _ _ (.slice A1 n1 c1) g1
 have g3:=heap_setCell_same _ b 2 _ _ (.slice A2 n2 c2) g2
 have k0:Ak' 3 T w b w:=Ak'.start rfl (AK' _ _ _ _ _ _ _) L
 have k1:=k0.set (i:=0) (AO s1)
 have k2:=k1.set (i:=1) (Au A1 n1 c1)
 have S:Aj' w w':=by rw [hw];exact ((((Aj'.refl w).put k0).put k1).put k2)
 have R:∀ v z,Am' w v z→Am' w' v z:=fun v z hv=>by rw [hw];exact (((hv.other (i:=0) (u:=.bool s1) L BS').other (i:=1) (u:=.slice A1 n1 c1) g1 BS').other (i:=2) (u:=.slice A2 n2 c2) g2 BS')
 refine ⟨by rw [hw,g3];rfl,fun n o hne ho=>by rw [hw,heap_setCell_other _ _ _ _ hne,heap_setCell_other _ _ _ _ hne,heap_setCell_other _ _ _ _ hne];exact ho,⟨S,R⟩,fun N wB hN hB=>?_⟩
 rw [hw];exact (((hB.setCell (p:=⟨b,0,none⟩) hN _).setCell (p:=⟨b,1,none⟩) hN _).setCell (p:=⟨b,2,none⟩) hN _)
theorem Av {w w':World} {b:Nat} {T:TypeId} {s1 t1 s2 t2:Bool} {A1 B1 A2 B2 A3 B3 A4 B4:Option Addr} {n1 c1 m1 d1 n2 c2 m2 d2 n3 c3 m3 d3 n4 c4 m4 d4:Nat} (L:w.heap[b]?=some (.cells #[.bool t1,.slice B1 m1 d1,.slice B2 m2 d2,.bool t2,.slice B3 m3 d3,.slice B4 m4 d4] T (0,0))) (hw:w'=((((((w.setCell ⟨b,0,none⟩ (.bool s1)).setCell ⟨b,1,none⟩ (.slice A1 n1 c1)).setCell ⟨b,2,none⟩ (.slice A2 n2 c2)).setCell ⟨b,3,none⟩ (.bool s2)).setCell ⟨b,4,none⟩ (.slice A3 n3 c3)).setCell ⟨b,5,none⟩ (.slice A4 n4 c4))) :
   w'.heap[b]?=some (.cells #[.bool s1,.slice A1 n1 c1,.slice A2 n2 c2,.bool s2,.slice A3 n3 c3,.slice A4 n4 c4] T (0,0))∧(∀ (n:Nat) (o:Obj),n≠b→w.heap[n]?=some o→w'.heap[n]?=some o)∧A6' w w'∧(∀ (N:Nat) (wB:World),N≤b→Below N wB w→Below N wB w'):=by
 have g1:=heap_setCell_same w b 0 _ _ (.bool s1) L
 have g2:=heap_setCell_same _ b 1 _ _ (.slice A1 n1 c1) g1
 have g3:=heap_setCell_same _ b 2 _ _ (.slice A2 n2 c2) g2
 have g4:=heap_setCell_same _ b 3 _ _ (.bool s2) g3
 have g5:=heap_setCell_same _ b 4 _ _ (.slice A3 n3 c3) g4
 have g6:=heap_setCell_same _ b 5 _ _ (.slice A4 n4 c4) g5
 have k0:Ak' 6 T w b w:=Ak'.start rfl HU' L
 have k1:=k0.set (i:=0) (AO s1)
 have k2:=k1.set (i:=1) (Au A1 n1 c1)
 have k3:=k2.set (i:=2) (Au A2 n2 c2)
 have k4:=k3.set (i:=3) (AO s2)
 have k5:=k4.set (i:=4) (Au A3 n3 c3)
 have S:Aj' w w':=by rw [hw];exact (((((((Aj'.refl w).put k0).put k1).put k2).put k3).put k4).put k5)
 have R:∀ v z,Am' w v z→Am' w' v z:=fun v z hv=>by rw [hw];exact ((((((hv.other (i:=0) (u:=.bool s1) L BG).other (i:=1) (u:=.slice A1 n1 c1) g1 BG).other (i:=2) (u:=.slice A2 n2 c2) g2 BG).other (i:=3) (u:=.bool s2) g3 BG).other (i:=4) (u:=.slice A3 n3 c3) g4 BG).other (i:=5) (u:=.slice A4 n4 c4) g5 BG)
 refine ⟨by rw [hw,g6];rfl,fun n o hne ho=>by rw [hw,heap_setCell_other _ _ _ _ hne,heap_setCell_other _ _ _ _ hne,heap_setCell_other _ _ _ _ hne,heap_setCell_other _ _ _ _ hne,heap_setCell_other _ _ _ _ hne,heap_setCell_other _ _ _ _ hne];exact ho,⟨S,R⟩,fun N wB hN hB=>?_⟩
 rw [hw];exact ((((((hB.setCell (p:=⟨b,0,none⟩) hN _).setCell (p:=⟨b,1,none⟩) hN _).setCell (p:=⟨b,2,none⟩) hN _).setCell (p:=⟨b,3,none⟩) hN _).setCell (p:=⟨b,4,none⟩) hN _).setCell (p:=⟨b,5,none⟩) hN _)
theorem Aw' {wB wS w w':World} {N:Nat} (h:Ag' wB N wS w) (e:Hid (N≤wB.heap.size)) (hb:Below w.heap.size w w'):Ag' wB N wS w':=Ag'.call h e.out hb
theorem Cv {x y:Rat}:cmpQ x y≤0↔x≤y:=by
 unfold cmpQ
 rcases Decidable.em (x<y) with h | h
 · rw [if_pos h];exact ⟨fun _=>Rat.le_of_lt h,fun _=>by decide⟩
 · rw [if_neg h]
   rcases Decidable.em (x=y) with k | k
   · rw [if_pos k];exact ⟨fun _=>k ▸ Rat.le_refl,fun _=>by decide⟩
   · rw [if_neg k];exact ⟨fun a=>absurd a (by decide),fun a=>absurd (Rat.le_antisymm a (Rat.not_lt.1 h)) k⟩
theorem EP' {x y:Rat}:cmpQ x y≥0↔y≤x:=by
 unfold cmpQ
 rcases Decidable.em (x<y) with h | h
 · rw [if_pos h];exact ⟨fun a=>absurd a (by decide),fun a=>absurd h (Rat.not_lt.2 a)⟩
 · rw [if_neg h]
   exact ⟨fun _=>Rat.not_lt.1 h,fun _=>by split <;> decide⟩
theorem G7 {w:World} {vx vy:Value} {p q r:Rat} (hr:(if p≤q then p else q)=r) (hx:Av' w vx p) (hy:Av' w vy q) (sp:Ab' p≤16777216) (sq:Ab' q≤16777216) :
   Calls Tryz.prog 54 #[vx,vy] w (BW' w r):=by
 have tp:Ab' p≤268435456:=by omega
 have tq:Ab' q≤268435456:=by omega
 replace tp:=hid tp
 replace tq:=hid tq
 clear sp sq
 obtain ⟨c,ec⟩:=eY (cmpQ p q:Int)
 rcases Decidable.em (p≤q) with h | h
 · rw [if_pos h] at hr
   subst hr
   have hc:decide (c≤0)=true:=dT_ (by rw [←ec];exact Cv.2 h)
   replace ec:=hid ec
   clear h
   obtain ⟨C1,j1,C2,j2,rfl,-,-⟩:=id hx.opened
   replace hx:=hid hx
   obtain ⟨C3,j3,C4,j4,rfl,-,-⟩:=id hy.opened
   replace hy:=hid hy
   obtain ⟨w1,hw1⟩:=eX ((((w.alloc (.cells #[.bool (decide (p.num<0)),.slice C1 (len p.num.natAbs) j1,.slice C2 (len p.den) j2] 38)).alloc (.cells #[.bool (decide (q.num<0)),.slice C3 (len q.num.natAbs) j3,.slice C4 (len q.den) j4] 38)).alloc (.cells #[.bool false,.slice none 0 0,.slice none 0 0] 38)))
   obtain ⟨b1,g1,g2,g3⟩:=AD hw1
   replace g1:=hid g1
   replace g2:=hid g2
   replace g3:=hid g3
   replace b1:=hid b1
   go_enter Tryz.func54,Tryz.ntmps54
   go_upto_region 1 with fail
   rw [←hw1]
   clear hw1
   have hg:w1.heap[w.heap.size]?=some (.cells #[.bool (decide (p.num<0)),.slice C1 (len p.num.natAbs) j1,.slice C2 (len p.den) j2] 38 (0,0)):=((Below.refl _ w1).block _ (gE.1 g1.out).1).trans g1.out
   obtain ⟨z_x_0,z_x_1,z_x_2⟩:=Ae hg
   clear hg
   have hg:w1.heap[w.heap.size+1]?=some (.cells #[.bool (decide (q.num<0)),.slice C3 (len q.num.natAbs) j3,.slice C4 (len q.den) j4] 38 (0,0)):=((Below.refl _ w1).block _ (gE.1 g2.out).1).trans g2.out
   obtain ⟨z_y_0,z_y_1,z_y_2⟩:=Ae hg
   clear hg
   have HX:=hid (CU ec.out (hx.out.keep b1.out) (hy.out.keep b1.out) tp.out tq.out)
   go_wp2_with fail
   refine (HX.out).mono ?_
   rintro e w2 ⟨rfl,b2⟩
   replace b2:=hid b2
   clear HX
   clear z_x_0 z_x_1 z_x_2 z_y_0 z_y_1 z_y_2
   have hg:w2.heap[w.heap.size]?=some (.cells #[.bool (decide (p.num<0)),.slice C1 (len p.num.natAbs) j1,.slice C2 (len p.den) j2] 38 (0,0)):=(b2.out.block _ (gE.1 g1.out).1).trans g1.out
   obtain ⟨z_x_0,z_x_1,z_x_2⟩:=Ae hg
   clear hg
   have DR:=(Ac' g3.out b2.out)
   have q0:w2.cell? ⟨w.heap.size+2,0,none⟩=some (.bool false):=cR _ _ _ _ _ _ DR
   have F0:w2.frozen? ⟨w.heap.size+2,0,none⟩=false:=fR w2 (w.heap.size+2) 0 _ _ DR
   have q1:w2.cell? ⟨w.heap.size+2,1,none⟩=some (.slice none 0 0):=cR _ _ _ _ _ _ DR
   have F1:w2.frozen? ⟨w.heap.size+2,1,none⟩=false:=fR w2 (w.heap.size+2) 1 _ _ DR
   have q2:w2.cell? ⟨w.heap.size+2,2,none⟩=some (.slice none 0 0):=cR _ _ _ _ _ _ DR
   have F2:w2.frozen? ⟨w.heap.size+2,2,none⟩=false:=fR w2 (w.heap.size+2) 2 _ _ DR
   have FB:=(bS b1.out b2.out)
   have FV:=(hx.out.keep (bS b1.out b2.out))
   obtain ⟨ue,hw⟩:=eX ((((w2.setCell ⟨w.heap.size+2,0,none⟩ (.bool (decide (p.num<0)))).setCell ⟨w.heap.size+2,1,none⟩ (.slice C1 (len p.num.natAbs) j1)).setCell ⟨w.heap.size+2,2,none⟩ (.slice C2 (len p.den) j2)))
   obtain ⟨E_ue,-,LV,BL⟩:=As' DR hw
   have FE:=hid (LV.rat FV)
   replace FB:=hid (BL _ _ (by omega) FB)
   replace E_ue:=hid E_ue
   replace hw:=hid hw
   clear DR FV LV BL
   go_wp2_with fail
   rw [←hw.out]
   obtain ⟨r0,r1,r2⟩:=Ae E_ue.out
   refine bP (v:=.agg #[.bool (decide (p.num<0)),.slice C1 (len p.num.natAbs) j1,.slice C2 (len p.den) j2]) ?_ rfl ⟨_,rfl,FE.out,FB.out⟩
   simp [results,Tryz.results54,go_sem,r0,r1,r2]
 · rw [if_neg h] at hr
   subst hr
   have hc:decide (c≤0)=false:=dF_ (by rw [←ec];exact fun k=>h (Cv.1 k))
   replace ec:=hid ec
   clear h
   obtain ⟨C5,j5,C6,j6,rfl,-,-⟩:=id hx.opened
   replace hx:=hid hx
   obtain ⟨C7,j7,C8,j8,rfl,-,-⟩:=id hy.opened
   replace hy:=hid hy
   obtain ⟨w1,hw1⟩:=eX ((((w.alloc (.cells #[.bool (decide (p.num<0)),.slice C5 (len p.num.natAbs) j5,.slice C6 (len p.den) j6] 38)).alloc (.cells #[.bool (decide (q.num<0)),.slice C7 (len q.num.natAbs) j7,.slice C8 (len q.den) j8] 38)).alloc (.cells #[.bool false,.slice none 0 0,.slice none 0 0] 38)))
   obtain ⟨b1,g1,g2,g3⟩:=AD hw1
   replace g1:=hid g1
   replace g2:=hid g2
   replace g3:=hid g3
   replace b1:=hid b1
   go_enter Tryz.func54,Tryz.ntmps54
   go_upto_region 1 with fail
   rw [←hw1]
   clear hw1
   have hg:w1.heap[w.heap.size]?=some (.cells #[.bool (decide (p.num<0)),.slice C5 (len p.num.natAbs) j5,.slice C6 (len p.den) j6] 38 (0,0)):=((Below.refl _ w1).block _ (gE.1 g1.out).1).trans g1.out
   obtain ⟨z_x_0,z_x_1,z_x_2⟩:=Ae hg
   clear hg
   have hg:w1.heap[w.heap.size+1]?=some (.cells #[.bool (decide (q.num<0)),.slice C7 (len q.num.natAbs) j7,.slice C8 (len q.den) j8] 38 (0,0)):=((Below.refl _ w1).block _ (gE.1 g2.out).1).trans g2.out
   obtain ⟨z_y_0,z_y_1,z_y_2⟩:=Ae hg
   clear hg
   have HX:=hid (CU ec.out (hx.out.keep b1.out) (hy.out.keep b1.out) tp.out tq.out)
   go_wp2_with fail
   refine (HX.out).mono ?_
   rintro e w2 ⟨rfl,b2⟩
   replace b2:=hid b2
   clear HX
   clear z_x_0 z_x_1 z_x_2 z_y_0 z_y_1 z_y_2
   have hg:w2.heap[w.heap.size+1]?=some (.cells #[.bool (decide (q.num<0)),.slice C7 (len q.num.natAbs) j7,.slice C8 (len q.den) j8] 38 (0,0)):=(b2.out.block _ (gE.1 g2.out).1).trans g2.out
   obtain ⟨z_y_0,z_y_1,z_y_2⟩:=Ae hg
   clear hg
   have DR:=(Ac' g3.out b2.out)
   have q0:w2.cell? ⟨w.heap.size+2,0,none⟩=some (.bool false):=cR _ _ _ _ _ _ DR
   have F0:w2.frozen? ⟨w.heap.size+2,0,none⟩=false:=fR w2 (w.heap.size+2) 0 _ _ DR
   have q1:w2.cell? ⟨w.heap.size+2,1,none⟩=some (.slice none 0 0):=cR _ _ _ _ _ _ DR
   have F1:w2.frozen? ⟨w.heap.size+2,1,none⟩=false:=fR w2 (w.heap.size+2) 1 _ _ DR
   have q2:w2.cell? ⟨w.heap.size+2,2,none⟩=some (.slice none 0 0):=cR _ _ _ _ _ _ DR
   have F2:w2.frozen? ⟨w.heap.size+2,2,none⟩=false:=fR w2 (w.heap.size+2) 2 _ _ DR
   have FB:=(bS b1.out b2.out)
   have FV:=(hy.out.keep (bS b1.out b2.out))
   obtain ⟨ue,hw⟩:=eX ((((w2.setCell ⟨w.heap.size+2,0,none⟩ (.bool (decide (q.num<0)))).setCell ⟨w.heap.size+2,1,none⟩ (.slice C7 (len q.num.natAbs) j7)).setCell ⟨w.heap.size+2,2,none⟩ (.slice C8 (len q.den) j8)))
   obtain ⟨E_ue,-,LV,BL⟩:=As' DR hw
   have FE:=hid (LV.rat FV)
   replace FB:=hid (BL _ _ (by omega) FB)
   replace E_ue:=hid E_ue
   replace hw:=hid hw
   clear DR FV LV BL
   go_wp2_with fail
   rw [←hw.out]
   obtain ⟨r0,r1,r2⟩:=Ae E_ue.out
   refine bP (v:=.agg #[.bool (decide (q.num<0)),.slice C7 (len q.num.natAbs) j7,.slice C8 (len q.den) j8]) ?_ rfl ⟨_,rfl,FE.out,FB.out⟩
   simp [results,Tryz.results54,go_sem,r0,r1,r2]
theorem G7' {w:World} {vx vy:Value} {p q r:Rat} (hr:(if q≤p then p else q)=r) (hx:Av' w vx p) (hy:Av' w vy q) (sp:Ab' p≤16777216) (sq:Ab' q≤16777216) :
   Calls Tryz.prog 55 #[vx,vy] w (BW' w r):=by
 have tp:Ab' p≤268435456:=by omega
 have tq:Ab' q≤268435456:=by omega
 replace tp:=hid tp
 replace tq:=hid tq
 clear sp sq
 obtain ⟨c,ec⟩:=eY (cmpQ p q:Int)
 rcases Decidable.em (q≤p) with h | h
 · rw [if_pos h] at hr
   subst hr
   have hc:decide (c≥0)=true:=dT_ (by rw [←ec];exact EP'.2 h)
   replace ec:=hid ec
   clear h
   obtain ⟨C1,j1,C2,j2,rfl,-,-⟩:=id hx.opened
   replace hx:=hid hx
   obtain ⟨C3,j3,C4,j4,rfl,-,-⟩:=id hy.opened
   replace hy:=hid hy
   obtain ⟨w1,hw1⟩:=eX ((((w.alloc (.cells #[.bool (decide (p.num<0)),.slice C1 (len p.num.natAbs) j1,.slice C2 (len p.den) j2] 38)).alloc (.cells #[.bool (decide (q.num<0)),.slice C3 (len q.num.natAbs) j3,.slice C4 (len q.den) j4] 38)).alloc (.cells #[.bool false,.slice none 0 0,.slice none 0 0] 38)))
   obtain ⟨b1,g1,g2,g3⟩:=AD hw1
   replace g1:=hid g1
   replace g2:=hid g2
   replace g3:=hid g3
   replace b1:=hid b1
   go_enter Tryz.func55,Tryz.ntmps55
   go_upto_region 1 with fail
   rw [←hw1]
   clear hw1
   have hg:w1.heap[w.heap.size]?=some (.cells #[.bool (decide (p.num<0)),.slice C1 (len p.num.natAbs) j1,.slice C2 (len p.den) j2] 38 (0,0)):=((Below.refl _ w1).block _ (gE.1 g1.out).1).trans g1.out
   obtain ⟨z_x_0,z_x_1,z_x_2⟩:=Ae hg
   clear hg
   have hg:w1.heap[w.heap.size+1]?=some (.cells #[.bool (decide (q.num<0)),.slice C3 (len q.num.natAbs) j3,.slice C4 (len q.den) j4] 38 (0,0)):=((Below.refl _ w1).block _ (gE.1 g2.out).1).trans g2.out
   obtain ⟨z_y_0,z_y_1,z_y_2⟩:=Ae hg
   clear hg
   have HX:=hid (CU ec.out (hx.out.keep b1.out) (hy.out.keep b1.out) tp.out tq.out)
   go_wp2_with fail
   refine (HX.out).mono ?_
   rintro e w2 ⟨rfl,b2⟩
   replace b2:=hid b2
   clear HX
   clear z_x_0 z_x_1 z_x_2 z_y_0 z_y_1 z_y_2
   have hg:w2.heap[w.heap.size]?=some (.cells #[.bool (decide (p.num<0)),.slice C1 (len p.num.natAbs) j1,.slice C2 (len p.den) j2] 38 (0,0)):=(b2.out.block _ (gE.1 g1.out).1).trans g1.out
   obtain ⟨z_x_0,z_x_1,z_x_2⟩:=Ae hg
   clear hg
   have DR:=(Ac' g3.out b2.out)
   have q0:w2.cell? ⟨w.heap.size+2,0,none⟩=some (.bool false):=cR _ _ _ _ _ _ DR
   have F0:w2.frozen? ⟨w.heap.size+2,0,none⟩=false:=fR w2 (w.heap.size+2) 0 _ _ DR
   have q1:w2.cell? ⟨w.heap.size+2,1,none⟩=some (.slice none 0 0):=cR _ _ _ _ _ _ DR
   have F1:w2.frozen? ⟨w.heap.size+2,1,none⟩=false:=fR w2 (w.heap.size+2) 1 _ _ DR
   have q2:w2.cell? ⟨w.heap.size+2,2,none⟩=some (.slice none 0 0):=cR _ _ _ _ _ _ DR
   have F2:w2.frozen? ⟨w.heap.size+2,2,none⟩=false:=fR w2 (w.heap.size+2) 2 _ _ DR
   have FB:=(bS b1.out b2.out)
   have FV:=(hx.out.keep (bS b1.out b2.out))
   obtain ⟨ue,hw⟩:=eX ((((w2.setCell ⟨w.heap.size+2,0,none⟩ (.bool (decide (p.num<0)))).setCell ⟨w.heap.size+2,1,none⟩ (.slice C1 (len p.num.natAbs) j1)).setCell ⟨w.heap.size+2,2,none⟩ (.slice C2 (len p.den) j2)))
   obtain ⟨E_ue,-,LV,BL⟩:=As' DR hw
   have FE:=hid (LV.rat FV)
   replace FB:=hid (BL _ _ (by omega) FB)
   replace E_ue:=hid E_ue
   replace hw:=hid hw
   clear DR FV LV BL
   go_wp2_with fail
   rw [←hw.out]
   obtain ⟨r0,r1,r2⟩:=Ae E_ue.out
   refine bP (v:=.agg #[.bool (decide (p.num<0)),.slice C1 (len p.num.natAbs) j1,.slice C2 (len p.den) j2]) ?_ rfl ⟨_,rfl,FE.out,FB.out⟩
   simp [results,Tryz.results55,go_sem,r0,r1,r2]
 · rw [if_neg h] at hr
   subst hr
   have hc:decide (c≥0)=false:=dF_ (by rw [←ec];exact fun k=>h (EP'.1 k))
   replace ec:=hid ec
   clear h
   obtain ⟨C5,j5,C6,j6,rfl,-,-⟩:=id hx.opened
   replace hx:=hid hx
   obtain ⟨C7,j7,C8,j8,rfl,-,-⟩:=id hy.opened
   replace hy:=hid hy
   obtain ⟨w1,hw1⟩:=eX ((((w.alloc (.cells #[.bool (decide (p.num<0)),.slice C5 (len p.num.natAbs) j5,.slice C6 (len p.den) j6] 38)).alloc (.cells #[.bool (decide (q.num<0)),.slice C7 (len q.num.natAbs) j7,.slice C8 (len q.den) j8] 38)).alloc (.cells #[.bool false,.slice none 0 0,.slice none 0 0] 38)))
   obtain ⟨b1,g1,g2,g3⟩:=AD hw1
   replace g1:=hid g1
   replace g2:=hid g2
   replace g3:=hid g3
   replace b1:=hid b1
   go_enter Tryz.func55,Tryz.ntmps55
   go_upto_region 1 with fail
   rw [←hw1]
   clear hw1
   have hg:w1.heap[w.heap.size]?=some (.cells #[.bool (decide (p.num<0)),.slice C5 (len p.num.natAbs) j5,.slice C6 (len p.den) j6] 38 (0,0)):=((Below.refl _ w1).block _ (gE.1 g1.out).1).trans g1.out
   obtain ⟨z_x_0,z_x_1,z_x_2⟩:=Ae hg
   clear hg
   have hg:w1.heap[w.heap.size+1]?=some (.cells #[.bool (decide (q.num<0)),.slice C7 (len q.num.natAbs) j7,.slice C8 (len q.den) j8] 38 (0,0)):=((Below.refl _ w1).block _ (gE.1 g2.out).1).trans g2.out
   obtain ⟨z_y_0,z_y_1,z_y_2⟩:=Ae hg
   clear hg
   have HX:=hid (CU ec.out (hx.out.keep b1.out) (hy.out.keep b1.out) tp.out tq.out)
   go_wp2_with fail
   refine (HX.out).mono ?_
   rintro e w2 ⟨rfl,b2⟩
   replace b2:=hid b2
   clear HX
   clear z_x_0 z_x_1 z_x_2 z_y_0 z_y_1 z_y_2
   have hg:w2.heap[w.heap.size+1]?=some (.cells #[.bool (decide (q.num<0)),.slice C7 (len q.num.natAbs) j7,.slice C8 (len q.den) j8] 38 (0,0)):=(b2.out.block _ (gE.1 g2.out).1).trans g2.out
   obtain ⟨z_y_0,z_y_1,z_y_2⟩:=Ae hg
   clear hg
   have DR:=(Ac' g3.out b2.out)
   have q0:w2.cell? ⟨w.heap.size+2,0,none⟩=some (.bool false):=cR _ _ _ _ _ _ DR
   have F0:w2.frozen? ⟨w.heap.size+2,0,none⟩=false:=fR w2 (w.heap.size+2) 0 _ _ DR
   have q1:w2.cell? ⟨w.heap.size+2,1,none⟩=some (.slice none 0 0):=cR _ _ _ _ _ _ DR
   have F1:w2.frozen? ⟨w.heap.size+2,1,none⟩=false:=fR w2 (w.heap.size+2) 1 _ _ DR
   have q2:w2.cell? ⟨w.heap.size+2,2,none⟩=some (.slice none 0 0):=cR _ _ _ _ _ _ DR
   have F2:w2.frozen? ⟨w.heap.size+2,2,none⟩=false:=fR w2 (w.heap.size+2) 2 _ _ DR
   have FB:=(bS b1.out b2.out)
   have FV:=(hy.out.keep (bS b1.out b2.out))
   obtain ⟨ue,hw⟩:=eX ((((w2.setCell ⟨w.heap.size+2,0,none⟩ (.bool (decide (q.num<0)))).setCell ⟨w.heap.size+2,1,none⟩ (.slice C7 (len q.num.natAbs) j7)).setCell ⟨w.heap.size+2,2,none⟩ (.slice C8 (len q.den) j8)))
   obtain ⟨E_ue,-,LV,BL⟩:=As' DR hw
   have FE:=hid (LV.rat FV)
   replace FB:=hid (BL _ _ (by omega) FB)
   replace E_ue:=hid E_ue
   replace hw:=hid hw
   clear DR FV LV BL
   go_wp2_with fail
   rw [←hw.out]
   obtain ⟨r0,r1,r2⟩:=Ae E_ue.out
   refine bP (v:=.agg #[.bool (decide (q.num<0)),.slice C7 (len q.num.natAbs) j7,.slice C8 (len q.den) j8]) ?_ rfl ⟨_,rfl,FE.out,FB.out⟩
   simp [results,Tryz.results55,go_sem,r0,r1,r2]
theorem FN {w:World} {vx:Value} {p:Rat} (hx:Av' w vx p) :
   Calls Tryz.prog 53 #[vx] w (D6 w p p):=by
 obtain ⟨C1,j1,C2,j2,rfl,-,-⟩:=id hx.opened
 replace hx:=hid hx
 obtain ⟨w1,hw1⟩:=eX (((w.alloc (.cells #[.bool (decide (p.num<0)),.slice C1 (len p.num.natAbs) j1,.slice C2 (len p.den) j2] 38)).alloc (.cells #[.bool false,.slice none 0 0,.slice none 0 0,.bool false,.slice none 0 0,.slice none 0 0] 40)))
 obtain ⟨b1,g1,g2⟩:=AA' hw1
 replace g1:=hid g1
 replace g2:=hid g2
 replace b1:=hid b1
 go_enter Tryz.func53,Tryz.ntmps53
 go_upto_region 1 with fail
 rw [←hw1]
 clear hw1
 have hg:w1.heap[w.heap.size]?=some (.cells #[.bool (decide (p.num<0)),.slice C1 (len p.num.natAbs) j1,.slice C2 (len p.den) j2] 38 (0,0)):=((Below.refl _ w1).block _ (gE.1 g1.out).1).trans g1.out
 obtain ⟨z_x_0,z_x_1,z_x_2⟩:=Ae hg
 clear hg
 have DR:=(Ac' g2.out (Below.refl _ w1))
 have q0:w1.cell? ⟨w.heap.size+1,0,none⟩=some (.bool false):=cR _ _ _ _ _ _ DR
 have F0:w1.frozen? ⟨w.heap.size+1,0,none⟩=false:=fR w1 (w.heap.size+1) 0 _ _ DR
 have q1:w1.cell? ⟨w.heap.size+1,1,none⟩=some (.slice none 0 0):=cR _ _ _ _ _ _ DR
 have F1:w1.frozen? ⟨w.heap.size+1,1,none⟩=false:=fR w1 (w.heap.size+1) 1 _ _ DR
 have q2:w1.cell? ⟨w.heap.size+1,2,none⟩=some (.slice none 0 0):=cR _ _ _ _ _ _ DR
 have F2:w1.frozen? ⟨w.heap.size+1,2,none⟩=false:=fR w1 (w.heap.size+1) 2 _ _ DR
 have q3:w1.cell? ⟨w.heap.size+1,3,none⟩=some (.bool false):=cR _ _ _ _ _ _ DR
 have F3:w1.frozen? ⟨w.heap.size+1,3,none⟩=false:=fR w1 (w.heap.size+1) 3 _ _ DR
 have q4:w1.cell? ⟨w.heap.size+1,4,none⟩=some (.slice none 0 0):=cR _ _ _ _ _ _ DR
 have F4:w1.frozen? ⟨w.heap.size+1,4,none⟩=false:=fR w1 (w.heap.size+1) 4 _ _ DR
 have q5:w1.cell? ⟨w.heap.size+1,5,none⟩=some (.slice none 0 0):=cR _ _ _ _ _ _ DR
 have F5:w1.frozen? ⟨w.heap.size+1,5,none⟩=false:=fR w1 (w.heap.size+1) 5 _ _ DR
 have FB:=b1.out
 have FV:=(Av'.pair (hx.out.keep b1.out) (hx.out.keep b1.out))
 obtain ⟨ue,hw⟩:=eX (((((((w1.setCell ⟨w.heap.size+1,0,none⟩ (.bool (decide (p.num<0)))).setCell ⟨w.heap.size+1,1,none⟩ (.slice C1 (len p.num.natAbs) j1)).setCell ⟨w.heap.size+1,2,none⟩ (.slice C2 (len p.den) j2)).setCell ⟨w.heap.size+1,3,none⟩ (.bool (decide (p.num<0)))).setCell ⟨w.heap.size+1,4,none⟩ (.slice C1 (len p.num.natAbs) j1)).setCell ⟨w.heap.size+1,5,none⟩ (.slice C2 (len p.den) j2)))
 obtain ⟨E_ue,-,LV,BL⟩:=Av DR hw
 have FE:=hid (LV.rbox FV)
 replace FB:=hid (BL _ _ (by omega) FB)
 replace E_ue:=hid E_ue
 replace hw:=hid hw
 clear DR FV LV BL
 go_wp2_with fail
 rw [←hw.out]
 obtain ⟨r0,r1,r2,r3,r4,r5⟩:=Af E_ue.out
 refine bP (v:=.agg #[.bool (decide (p.num<0)),.slice C1 (len p.num.natAbs) j1,.slice C2 (len p.den) j2,.bool (decide (p.num<0)),.slice C1 (len p.num.natAbs) j1,.slice C2 (len p.den) j2]) ?_ rfl ⟨_,rfl,FE.out,FB.out⟩
 simp [results,Tryz.results53,go_sem,r0,r1,r2,r3,r4,r5]
end Go.Proofs.YtcicfnlljdnagaaGreatDoor.Rf
