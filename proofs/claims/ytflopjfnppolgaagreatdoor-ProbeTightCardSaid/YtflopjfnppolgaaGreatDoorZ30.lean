/-
  Contracts of the functions that the law calls, for every input (Sg Sh Tb Tc Td Tr).
-/
import Derived.Test.YtflopjfnppolgaaGreatDoorZ00
import Derived.Test.YtflopjfnppolgaaGreatDoorZ29
import Derived.Test.YtflopjfnppolgaaGreatDoorZ11
import Derived.Test.YtflopjfnppolgaaGreatDoorZ08
import Derived.Test.YtflopjfnppolgaaGreatDoorZ18
set_option linter.all false
set_option maxRecDepth 100000
set_option maxHeartbeats 40000000
namespace Go.Proofs.YtflopjfnppolgaaGreatDoor.Rf
open Lib (hid)
open Go.RowKit
open Rx
open List renaming getElem?_toArray → lg, getElem?_cons_zero → lz, getElem?_cons_succ → ls, setIfInBounds_toArray → lt, set_cons_zero → ly, set_cons_succ → lu
theorem Ee' {p q:Rat} {m:Bool} {T:Nat} (h:(if m=true then -((T:Nat):Int) else ((T:Nat):Int))=p.num*q.den+q.num*p.den):rat m T (p.den*q.den)=p+q:=by
 unfold rat
 rw [h]
 conv=>rhs;rw [←Rat.mkRat_self p,←Rat.mkRat_self q,Rat.mkRat_add_mkRat _ _ p.den_nz q.den_nz]
theorem G5' (p q:Rat) :
   (decide (p.num<0)=decide (q.num<0)→rat (decide (p.num<0)) (p.num.natAbs*q.den+q.num.natAbs*p.den) (p.den*q.den)=p+q) ∧
   (decide (p.num<0)≠decide (q.num<0)→q.num.natAbs*p.den≤p.num.natAbs*q.den→rat (decide (p.num<0)) (p.num.natAbs*q.den - q.num.natAbs*p.den) (p.den*q.den)=p+q) ∧
   (decide (p.num<0)≠decide (q.num<0)→p.num.natAbs*q.den<q.num.natAbs*p.den→rat (decide (q.num<0)) (q.num.natAbs*p.den - p.num.natAbs*q.den) (p.den*q.den)=p+q):=by
 have e1:p.num*(q.den:Int)=if decide (p.num<0)=true then -((p.num.natAbs*q.den:Nat):Int) else ((p.num.natAbs*q.den:Nat):Int):=by
   by_cases k:p.num<0
   · rw [if_pos (dT_ k),Int.natCast_mul,←Int.neg_mul];congr 1;omega
   · rw [if_neg (by rw [dF_ k];decide),Int.natCast_mul];congr 1;omega
 have e2:q.num*(p.den:Int)=if decide (q.num<0)=true then -((q.num.natAbs*p.den:Nat):Int) else ((q.num.natAbs*p.den:Nat):Int):=by
   by_cases k:q.num<0
   · rw [if_pos (dT_ k),Int.natCast_mul,←Int.neg_mul];congr 1;omega
   · rw [if_neg (by rw [dF_ k];decide),Int.natCast_mul];congr 1;omega
 refine ⟨fun h=>Ee' ?_,fun h k=>Ee' ?_,fun h k=>Ee' ?_⟩
 all_goals
   rw [e1,e2]
   generalize p.num.natAbs*q.den=X at *
   generalize q.num.natAbs*p.den=Y at *
   generalize decide (p.num<0)=b at *
   generalize decide (q.num<0)=d at *
   cases b <;> cases d <;> simp at h ⊢ <;> omega
theorem Fg' {w:World} {vx vy:Value} {p q r:Rat} (hr:p+q=r) (hx:Ah w vx p) (hy:Ah w vy q) (s1:len p.num.natAbs≤1073741824) (s2:len p.den≤1073741824) (s3:len q.num.natAbs≤1073741824) (s4:len q.den≤1073741824):Calls Tryz.prog 88 #[vx,vy] w (A2' w r):=by
 obtain ⟨A1,c1,A2,c2,rfl,h1,h2⟩:=hx.opened
 obtain ⟨A3,c3,A4,c4,rfl,h3,h4⟩:=hy.opened
 obtain ⟨g1,g2,g3⟩:=G5' p q
 rw [hr] at g1 g2 g3
 have hpos:0<p.den*q.den:=Nat.mul_pos p.den_pos q.den_pos
 obtain ⟨b,hb⟩:=eY (decide (p.num<0))
 obtain ⟨d,hd⟩:=eY (decide (q.num<0))
 obtain ⟨N,hN⟩:=eY p.num.natAbs
 obtain ⟨D,hD⟩:=eY p.den
 obtain ⟨M,hM⟩:=eY q.num.natAbs
 obtain ⟨E,hE⟩:=eY q.den
 rw [hb,hd,hN,hD,hM,hE] at g1 g2
 rw [hb,hd,hN,hD,hM,hE] at g3
 rw [hN] at h1 s1
 rw [hD] at h2 s2
 rw [hM] at h3 s3
 rw [hE] at h4 s4
 rw [hD,hE] at hpos
 rw [hb,hd,hN,hD,hM,hE]
 obtain ⟨n1,hn1⟩:=eY (len N)
 obtain ⟨n2,hn2⟩:=eY (len D)
 obtain ⟨n3,hn3⟩:=eY (len M)
 obtain ⟨n4,hn4⟩:=eY (len E)
 have t1:=At' N E
 have t2:=At' M D
 have t3:=At' D E
 have HT1:=fun (u:World) (hu:Below w.heap.size w u)=>Bo (w:=u) (h1.keep hu) (h4.keep hu) (by omega) (by omega)
 have HT2:=fun (u:World) (hu:Below w.heap.size w u)=>Bo (w:=u) (h3.keep hu) (h2.keep hu) (by omega) (by omega)
 have HT3:=fun (u:World) (hu:Below w.heap.size w u)=>Bo (w:=u) (h2.keep hu) (h4.keep hu) (by omega) (by omega)
 have u1':len (N*E)≤4294967296:=by omega
 have u2':len (M*D)≤4294967296:=by omega
 have u3':len (D*E)≤68719476736:=by omega
 obtain ⟨X,hX⟩:=eY (N*E)
 obtain ⟨Y,hY⟩:=eY (M*D)
 obtain ⟨Z,hZ⟩:=eY (D*E)
 rw [hX] at HT1 u1' g1 g2 g3
 rw [hY] at HT2 u2' g1 g2 g3
 rw [hZ] at HT3 u3' hpos g1 g2 g3
 have u4':len (X+Y)≤68719476736:=by have:=BM X Y;omega
 have u5':len (X - Y)≤68719476736:=nT (Am (Nat.sub_le _ _)) (by omega)
 have u6':len (Y - X)≤68719476736:=nT (Am (Nat.sub_le _ _)) (by omega)
 rw [hn1,hn2,hn3,hn4]
 rw [hn1,hn4] at HT1
 rw [hn3,hn2] at HT2
 rw [hn2,hn4] at HT3
 replace HT1:=hid HT1
 replace HT2:=hid HT2
 replace HT3:=hid HT3
 replace u1':=hid u1'
 replace u2':=hid u2'
 replace u3':=hid u3'
 replace u4':=hid u4'
 replace u5':=hid u5'
 replace u6':=hid u6'
 replace g1:=hid g1
 replace g2:=hid g2
 replace g3:=hid g3
 replace hpos:=hid hpos
 clear hb hd hN hD hM hE hn1 hn2 hn3 hn4 t1 t2 t3 hX hY hZ h1 h2 h3 h4 s1 s2 s3 s4 hr hx hy
 obtain ⟨wB,hwB⟩:=eX (((w.alloc (.cells #[.bool b,.slice A1 n1 c1,.slice A2 n2 c2] 43)).alloc (.cells #[.bool d,.slice A3 n3 c3,.slice A4 n4 c4] 43)).alloc (.cells #[.bool false,.slice none 0 0,.slice none 0 0] 43))
 obtain ⟨R,hR⟩:=eY w.heap.size
 obtain ⟨wA,b0,hsA,bA,hRB,k0,k1,k2,j0,j1,j2⟩:=CY' hR _ hwB
 have hS:=hid (fun (u:World) (hu:RB wA (R+2) u) (b o:Nat) (hb:b<R+2)=>hu.1.cell (p:=⟨b,o,none⟩) hb)
 have hRA:=hid (fun (u:World) (hu:RB wA (R+2) u)=>Ae' b0 (show Below wA.heap.size wA u by rw [hsA];exact hu.1))
 obtain ⟨u0,hu0⟩:=eX wB.drew
 have hB0:=hid (show RB wA (R+2) u0 by rw [hu0];exact hRB.call (AV wB))
 have HA:=hid (HT1.out u0 (hRA.out u0 hB0.out))
 have hRF:=hid (fun (u:World) (hu:Below (R+2) wA u)=>Ae' b0 (show Below wA.heap.size wA u by rw [hsA];exact hu))
 clear hRB bA HT1 hsA b0
 go_enter Tryz.func88,Tryz.ntmps88
 go_upto_region 1 with fail
 rw [←hwB]
 replace hR:=hid hR
 clear hwB
 refine wp_region_held_drew (S:=(fun w'=>(∀ b o,b<R+2→w'.cell? ⟨b,o,none⟩=wA.cell? ⟨b,o,none⟩))) (by kernel_rfl) ?_ (fun hHeld=>?_)
 · (try dsimp only)
   rw [←hu0]
   exact hS.out _ hB0.out
 rw [←hu0] at hHeld ⊢
 clear hu0
 refine tk (i:=0) (h:=?_)
 try simp only [Act.put,lt,ly,lu]
 refine tk (i:=1) (h:=?_)
 try simp only [Act.put,lt,ly,lu]
 refine tk (i:=2) (h:=?_)
 try simp only [Act.put,lt,ly,lu]
 refine tk (i:=3) (h:=?_)
 try simp only [Act.put,lt,ly,lu]
 refine tk (i:=5) (h:=?_)
 try simp only [Act.put,lt,ly,lu]
 refine tk (i:=6) (h:=?_)
 try simp only [Act.put,lt,ly,lu]
 refine tk (i:=7) (h:=?_)
 try simp only [Act.put,lt,ly,lu]
 refine tk (i:=8) (h:=?_)
 try simp only [Act.put,lt,ly,lu]
 refine tk (i:=10) (h:=?_)
 try simp only [Act.put,lt,ly,lu]
 refine tk (i:=11) (h:=?_)
 try simp only [Act.put,lt,ly,lu]
 refine tk (i:=12) (h:=?_)
 try simp only [Act.put,lt,ly,lu]
 refine tk (i:=13) (h:=?_)
 try simp only [Act.put,lt,ly,lu]
 refine rdz (i:=4) (h:=fun K hK=>?_)
 go_simp;go_at_call 43
 refine (HA.out).mono ?_
 rintro e w1 ⟨v1,rfl,hv1,b1⟩
 obtain ⟨BX,e9X,rfl,-,-,-,-⟩:=id hv1
 replace hv1:=hid hv1

 have hB1:=hid (hB0.out.call b1)
 clear HA b1
 refine hK.out _ _ ?_ (fun hHeld2=>?_)
 · (try dsimp only)
   exact hS.out _ hB1.out
 clear hK K hHeld
 try simp only [Act.put,lt,ly,lu]
 have hHeld:=hHeld2
 clear hHeld2
 have HB:=hid (HT2.out w1 (hRA.out w1 hB1.out))
 clear HT2
 refine rdz (i:=9) (h:=fun K hK=>?_)
 go_simp;go_at_call 43
 refine (HB.out).mono ?_
 rintro e w2 ⟨v2,rfl,hv2,b2⟩
 obtain ⟨BY,e9Y,rfl,-,-,-,-⟩:=id hv2
 replace hv2:=hid hv2

 have hB2:=hid (hB1.out.call b2)
 have hvX2:=hid (hv1.out.keep b2)
 clear HB b2 hv1
 refine hK.out _ _ ?_ (fun hHeld2=>?_)
 · (try dsimp only)
   exact hS.out _ hB2.out
 clear hK K hHeld
 try simp only [Act.put,lt,ly,lu]
 have hHeld:=hHeld2
 clear hHeld2
 have HC:=hid (HT3.out w2 (hRA.out w2 hB2.out))
 clear HT3
 refine rdz (i:=14) (h:=fun K hK=>?_)
 go_simp;go_at_call 43
 refine (HC.out).mono ?_
 rintro e w3 ⟨v3,rfl,hvZ,b3⟩
 obtain ⟨BZ,eZ,rfl,-,-,-,-⟩:=id hvZ
 replace hvZ:=hid hvZ

 have hB3:=hid (hB2.out.call b3)
 have hvX:=hid (hvX2.out.keep b3)
 have hvY:=hid (hv2.out.keep b3)
 clear HC b3 hvX2 hv2
 refine hK.out _ _ ?_ (fun hHeld2=>?_)
 · (try dsimp only)
   exact hS.out _ hB3.out
 clear hK K hHeld
 try simp only [Act.put,lt,ly,lu]
 have hHeld:=hHeld2
 clear hHeld2
 refine tk (i:=15) (h:=?_)
 try simp only [Act.put,lt,ly,lu]
 refine tk (i:=16) (h:=?_)
 try simp only [Act.put,lt,ly,lu]
 refine tk (i:=17) (h:=?_)
 try simp only [Act.put,lt,ly,lu]
 refine wpAnyH_done (by kernel_rfl) ?_ _
 clear hHeld
 obtain ⟨lX,hlX⟩:=eY (len X)
 obtain ⟨lY,hlY⟩:=eY (len Y)
 obtain ⟨lZ,hlZ⟩:=eY (len Z)
 rw [hlX,hlY,hlZ]
 rw [hlX] at hvX
 rw [hlY] at hvY
 rw [hlZ] at hvZ
 have kk0:w3.cell? ⟨R,0,none⟩=some (.bool b):=(hS.out _ hB3.out R 0 (by omega)).trans k0
 have kk1:w3.cell? ⟨R+1,0,none⟩=some (.bool d):=(hS.out _ hB3.out (R+1) 0 (by omega)).trans j0
 replace hlX:=hid hlX
 replace hlY:=hid hlY
 replace hlZ:=hid hlZ
 by_cases hbd:b=d
 · subst hbd
   have hrt:=hid (g1.out rfl)
   clear g2 g3 g1
   go_wp2_with fail
   have hB4:=hid (hB3.out.call (AV w3))
   obtain ⟨u4,hu4⟩:=eX w3.drew
   rw [←hu4] at hB4
   have bd:Below w3.heap.size w3 u4:=by rw [hu4];exact AV w3
   have HP:=hid (HN' (hvX.out.keep bd) (hvY.out.keep bd) (nT u1'.out (by decide)) (nT u2'.out (by decide)))
   have hvZ4:=hid (hvZ.out.keep bd)
   clear bd kk0 kk1
   refine wp_region_held_drew (S:=(fun w'=>(∀ b o,b<R+2→w'.cell? ⟨b,o,none⟩=wA.cell? ⟨b,o,none⟩))) (by kernel_rfl) ?_ (fun hHeld=>?_)
   · (try dsimp only)
     rw [←hu4]
     exact hS.out _ hB4.out
   rw [←hu4] at hHeld ⊢
   clear hu4
   refine tk (i:=0) (h:=?_)
   try simp only [Act.put,lt,ly,lu]
   refine tk (i:=1) (h:=?_)
   try simp only [Act.put,lt,ly,lu]
   refine tk (i:=2) (h:=?_)
   try simp only [Act.put,lt,ly,lu]
   refine tk (i:=3) (h:=?_)
   try simp only [Act.put,lt,ly,lu]
   refine tk (i:=5) (h:=?_)
   try simp only [Act.put,lt,ly,lu]
   refine rdz (i:=4) (h:=fun K hK=>?_)
   go_simp;go_at_call 126
   refine (HP.out).mono ?_
   rintro e w5 ⟨v5,rfl,hv5,b5⟩
   obtain ⟨B5,e5,rfl,-,-,-,-⟩:=id hv5
   replace hv5:=hid hv5

   have hB5:=hid (hB4.out.call b5)
   have hvZ5:=hid (hvZ4.out.keep b5)
   clear HP b5 hvZ4
   refine hK.out _ _ ?_ (fun hHeld2=>?_)
   · (try dsimp only)
     exact hS.out _ hB5.out
   clear hK K hHeld
   try simp only [Act.put,lt,ly,lu]
   have hHeld:=hHeld2
   clear hHeld2
   have HM:=hid (CA' hrt.out hv5.out hvZ5.out hpos.out u4'.out u3'.out)
   refine rdz (i:=6) (h:=fun K hK=>?_)
   go_simp;go_at_call 125
   refine (HM.out).mono ?_
   rintro e w6 ⟨v6,rfl,hv6,b6⟩
   obtain ⟨B3,e3,B4,e4,rfl,g1,g2⟩:=hv6.opened
   replace g1:=hid g1
   replace g2:=hid g2

   have hB6:=hid (hB5.out.call b6)
   clear HM b6 hv5 hv6 hvZ5
   refine hK.out _ _ ?_ (fun hHeld2=>?_)
   · (try dsimp only)
     exact hS.out _ hB6.out
   clear hK K hHeld
   try simp only [Act.put,lt,ly,lu]
   have hHeld:=hHeld2
   clear hHeld2
   obtain ⟨sb,hsb⟩:=eY (decide (r.num<0))
   obtain ⟨m1,hm1⟩:=eY (len r.num.natAbs)
   obtain ⟨m2,hm2⟩:=eY (len r.den)
   rw [hm1] at g1 ⊢
   rw [hm2] at g2 ⊢
   rw [hsb]
   obtain ⟨hbF,⟨r0,r1,r2⟩,hkF⟩:=(hB6.out).store (b:=sb) (A:=B3) (n:=m1) (c:=e3) (A':=B4) (n':=m2) (c':=e4) _ rfl
   obtain ⟨x0,x1,x2,⟨l0,l1,l2⟩,f0,f1,f2⟩:=(hB6.out).cells
   have FIN:=hid (show Ah _ (.agg #[.bool sb,.slice B3 m1 e3,.slice B4 m2 e4]) r from ⟨_,_,by rw [hsb],hkF _ _ g1.out,hkF _ _ g2.out⟩)
   have FB:=hid hbF
   replace hsb:=hid hsb
   replace hm1:=hid hm1
   replace hm2:=hid hm2
   have hcells:=hid (fun (b o:Nat) (hb:b<R+2)=>FB.out.cell (p:=⟨b,o,none⟩) hb)
   clear hkF hbF
   refine rdz (i:=7) (h:=fun K hK=>?_)
   go_simp
   refine hK.out _ _ ?_ (fun hHeld2=>?_)
   · (try dsimp only)
     exact hcells.out
   clear hK K hHeld hHeld2
   try simp only [Act.put,lt,ly,lu]
   refine wpAnyH_done (by kernel_rfl) ?_ _
   go_wp2_with fail
   refine bP (v:=.agg #[.bool sb,.slice B3 m1 e3,.slice B4 m2 e4]) ?_ rfl ⟨_,rfl,FIN.out,hRF.out _ FB.out⟩
   simp [results,Tryz.results88,go_sem,r0,r1,r2]
 · have hne:(b==d)=false:=by rw [beq_eq_false_iff_ne];exact hbd
   rcases Nat.lt_or_ge X Y with hXY | hXY
   · have hrt:=hid (g3.out hbd hXY)
     have hge:=Fe hXY
     have HK:=hid (BE hvX.out hvY.out (nT u1'.out (by decide)) (nT u2'.out (by decide)))
     obtain ⟨cc,hcc⟩:=eY (Ar X Y)
     rw [hcc] at HK hge
     have hXY9:=hid hXY
     clear g1 g2 g3 hcc hXY
     replace hbd:=hid hbd
     go_wp2_with fail
     refine (HK.out).mono ?_
     rintro e w9 ⟨rfl,rfl⟩
     clear HK
     go_wp2_with fail
     have hB4:=hid (hB3.out.call (AV w3))
     obtain ⟨u4,hu4⟩:=eX w3.drew
     rw [←hu4] at hB4
     have bd:Below w3.heap.size w3 u4:=by rw [hu4];exact AV w3
     have HP:=hid (Ck' (hvY.out.keep bd) (hvX.out.keep bd) (Nat.le_of_lt hXY9.out) (nT u2'.out (by decide)))
     have hvZ4:=hid (hvZ.out.keep bd)
     clear bd kk0 kk1
     refine wp_region_held_drew (S:=(fun w'=>(∀ b o,b<R+2→w'.cell? ⟨b,o,none⟩=wA.cell? ⟨b,o,none⟩))) (by kernel_rfl) ?_ (fun hHeld=>?_)
     · (try dsimp only)
       rw [←hu4]
       exact hS.out _ hB4.out
     rw [←hu4] at hHeld ⊢
     clear hu4
     refine tk (i:=0) (h:=?_)
     try simp only [Act.put,lt,ly,lu]
     refine tk (i:=1) (h:=?_)
     try simp only [Act.put,lt,ly,lu]
     refine tk (i:=2) (h:=?_)
     try simp only [Act.put,lt,ly,lu]
     refine tk (i:=3) (h:=?_)
     try simp only [Act.put,lt,ly,lu]
     refine tk (i:=5) (h:=?_)
     try simp only [Act.put,lt,ly,lu]
     refine rdz (i:=4) (h:=fun K hK=>?_)
     go_simp;go_at_call 127
     refine (HP.out).mono ?_
     rintro e w5 ⟨v5,rfl,hv5,b5⟩
     obtain ⟨B5,e5,rfl,-,-,-,-⟩:=id hv5
     replace hv5:=hid hv5

     have hB5:=hid (hB4.out.call b5)
     have hvZ5:=hid (hvZ4.out.keep b5)
     clear HP b5 hvZ4
     refine hK.out _ _ ?_ (fun hHeld2=>?_)
     · (try dsimp only)
       exact hS.out _ hB5.out
     clear hK K hHeld
     try simp only [Act.put,lt,ly,lu]
     have hHeld:=hHeld2
     clear hHeld2
     have HM:=hid (CA' hrt.out hv5.out hvZ5.out hpos.out u6'.out u3'.out)
     refine rdz (i:=6) (h:=fun K hK=>?_)
     go_simp;go_at_call 125
     refine (HM.out).mono ?_
     rintro e w6 ⟨v6,rfl,hv6,b6⟩
     obtain ⟨B3,e3,B4,e4,rfl,g1,g2⟩:=hv6.opened
     replace g1:=hid g1
     replace g2:=hid g2

     have hB6:=hid (hB5.out.call b6)
     clear HM b6 hv5 hv6 hvZ5
     refine hK.out _ _ ?_ (fun hHeld2=>?_)
     · (try dsimp only)
       exact hS.out _ hB6.out
     clear hK K hHeld
     try simp only [Act.put,lt,ly,lu]
     have hHeld:=hHeld2
     clear hHeld2
     obtain ⟨sb,hsb⟩:=eY (decide (r.num<0))
     obtain ⟨m1,hm1⟩:=eY (len r.num.natAbs)
     obtain ⟨m2,hm2⟩:=eY (len r.den)
     rw [hm1] at g1 ⊢
     rw [hm2] at g2 ⊢
     rw [hsb]
     obtain ⟨hbF,⟨r0,r1,r2⟩,hkF⟩:=(hB6.out).store (b:=sb) (A:=B3) (n:=m1) (c:=e3) (A':=B4) (n':=m2) (c':=e4) _ rfl
     obtain ⟨x0,x1,x2,⟨l0,l1,l2⟩,f0,f1,f2⟩:=(hB6.out).cells
     have FIN:=hid (show Ah _ (.agg #[.bool sb,.slice B3 m1 e3,.slice B4 m2 e4]) r from ⟨_,_,by rw [hsb],hkF _ _ g1.out,hkF _ _ g2.out⟩)
     have FB:=hid hbF
     replace hsb:=hid hsb
     replace hm1:=hid hm1
     replace hm2:=hid hm2
     have hcells:=hid (fun (b o:Nat) (hb:b<R+2)=>FB.out.cell (p:=⟨b,o,none⟩) hb)
     clear hkF hbF
     refine rdz (i:=7) (h:=fun K hK=>?_)
     go_simp
     refine hK.out _ _ ?_ (fun hHeld2=>?_)
     · (try dsimp only)
       exact hcells.out
     clear hK K hHeld hHeld2
     try simp only [Act.put,lt,ly,lu]
     refine wpAnyH_done (by kernel_rfl) ?_ _
     go_wp2_with fail
     refine bP (v:=.agg #[.bool sb,.slice B3 m1 e3,.slice B4 m2 e4]) ?_ rfl ⟨_,rfl,FIN.out,hRF.out _ FB.out⟩
     simp [results,Tryz.results88,go_sem,r0,r1,r2]
   · have hrt:=hid (g2.out hbd hXY)
     have hge:=FO hXY
     have HK:=hid (BE hvX.out hvY.out (nT u1'.out (by decide)) (nT u2'.out (by decide)))
     obtain ⟨cc,hcc⟩:=eY (Ar X Y)
     rw [hcc] at HK hge
     have hXY9:=hid hXY
     clear g1 g2 g3 hcc hXY
     replace hbd:=hid hbd
     go_wp2_with fail
     refine (HK.out).mono ?_
     rintro e w9 ⟨rfl,rfl⟩
     clear HK
     go_wp2_with fail
     have hB4:=hid (hB3.out.call (AV w3))
     obtain ⟨u4,hu4⟩:=eX w3.drew
     rw [←hu4] at hB4
     have bd:Below w3.heap.size w3 u4:=by rw [hu4];exact AV w3
     have HP:=hid (Ck' (hvX.out.keep bd) (hvY.out.keep bd) hXY9.out (nT u1'.out (by decide)))
     have hvZ4:=hid (hvZ.out.keep bd)
     clear bd kk0 kk1
     refine wp_region_held_drew (S:=(fun w'=>(∀ b o,b<R+2→w'.cell? ⟨b,o,none⟩=wA.cell? ⟨b,o,none⟩))) (by kernel_rfl) ?_ (fun hHeld=>?_)
     · (try dsimp only)
       rw [←hu4]
       exact hS.out _ hB4.out
     rw [←hu4] at hHeld ⊢
     clear hu4
     refine tk (i:=0) (h:=?_)
     try simp only [Act.put,lt,ly,lu]
     refine tk (i:=1) (h:=?_)
     try simp only [Act.put,lt,ly,lu]
     refine tk (i:=2) (h:=?_)
     try simp only [Act.put,lt,ly,lu]
     refine tk (i:=3) (h:=?_)
     try simp only [Act.put,lt,ly,lu]
     refine tk (i:=5) (h:=?_)
     try simp only [Act.put,lt,ly,lu]
     refine rdz (i:=4) (h:=fun K hK=>?_)
     go_simp;go_at_call 127
     refine (HP.out).mono ?_
     rintro e w5 ⟨v5,rfl,hv5,b5⟩
     obtain ⟨B5,e5,rfl,-,-,-,-⟩:=id hv5
     replace hv5:=hid hv5

     have hB5:=hid (hB4.out.call b5)
     have hvZ5:=hid (hvZ4.out.keep b5)
     clear HP b5 hvZ4
     refine hK.out _ _ ?_ (fun hHeld2=>?_)
     · (try dsimp only)
       exact hS.out _ hB5.out
     clear hK K hHeld
     try simp only [Act.put,lt,ly,lu]
     have hHeld:=hHeld2
     clear hHeld2
     have HM:=hid (CA' hrt.out hv5.out hvZ5.out hpos.out u5'.out u3'.out)
     refine rdz (i:=6) (h:=fun K hK=>?_)
     go_simp;go_at_call 125
     refine (HM.out).mono ?_
     rintro e w6 ⟨v6,rfl,hv6,b6⟩
     obtain ⟨B3,e3,B4,e4,rfl,g1,g2⟩:=hv6.opened
     replace g1:=hid g1
     replace g2:=hid g2

     have hB6:=hid (hB5.out.call b6)
     clear HM b6 hv5 hv6 hvZ5
     refine hK.out _ _ ?_ (fun hHeld2=>?_)
     · (try dsimp only)
       exact hS.out _ hB6.out
     clear hK K hHeld
     try simp only [Act.put,lt,ly,lu]
     have hHeld:=hHeld2
     clear hHeld2
     obtain ⟨sb,hsb⟩:=eY (decide (r.num<0))
     obtain ⟨m1,hm1⟩:=eY (len r.num.natAbs)
     obtain ⟨m2,hm2⟩:=eY (len r.den)
     rw [hm1] at g1 ⊢
     rw [hm2] at g2 ⊢
     rw [hsb]
     obtain ⟨hbF,⟨r0,r1,r2⟩,hkF⟩:=(hB6.out).store (b:=sb) (A:=B3) (n:=m1) (c:=e3) (A':=B4) (n':=m2) (c':=e4) _ rfl
     obtain ⟨x0,x1,x2,⟨l0,l1,l2⟩,f0,f1,f2⟩:=(hB6.out).cells
     have FIN:=hid (show Ah _ (.agg #[.bool sb,.slice B3 m1 e3,.slice B4 m2 e4]) r from ⟨_,_,by rw [hsb],hkF _ _ g1.out,hkF _ _ g2.out⟩)
     have FB:=hid hbF
     replace hsb:=hid hsb
     replace hm1:=hid hm1
     replace hm2:=hid hm2
     have hcells:=hid (fun (b o:Nat) (hb:b<R+2)=>FB.out.cell (p:=⟨b,o,none⟩) hb)
     clear hkF hbF
     refine rdz (i:=7) (h:=fun K hK=>?_)
     go_simp
     refine hK.out _ _ ?_ (fun hHeld2=>?_)
     · (try dsimp only)
       exact hcells.out
     clear hK K hHeld hHeld2
     try simp only [Act.put,lt,ly,lu]
     refine wpAnyH_done (by kernel_rfl) ?_ _
     go_wp2_with fail
     refine bP (v:=.agg #[.bool sb,.slice B3 m1 e3,.slice B4 m2 e4]) ?_ rfl ⟨_,rfl,FIN.out,hRF.out _ FB.out⟩
     simp [results,Tryz.results88,go_sem,r0,r1,r2]
theorem HX' {w:World} {vx vy:Value} {p q r:Rat} (hr:p - q=r) (hx:Ah w vx p) (hy:Ah w vy q) (s1:len p.num.natAbs≤1073741824) (s2:len p.den≤1073741824) (s3:len q.num.natAbs≤1073741824) (s4:len q.den≤1073741824):Calls Tryz.prog 52 #[vx,vy] w (A2' w r):=by
 obtain ⟨A1,c1,A2,c2,rfl,-,-⟩:=hx.opened
 obtain ⟨A3,c3,A4,c4,rfl,-,-⟩:=hy.opened
 obtain ⟨m,hm⟩:=eY (-q)
 have hr2:p+m=r:=by rw [←hm,←Rat.sub_eq_add_neg];exact hr
 obtain ⟨i1,i2,-⟩:=Ff' q
 rw [hm] at i1 i2
 have HN:=hid (fun (u:World) (hu:Below w.heap.size w u)=>DD hm (hy.keep hu))
 have HP:=hid (fun (u:World) (v:Value) (hu:Below w.heap.size w u) (hv:Ah u v m)=>Fg' hr2 (hx.keep hu) hv s1 s2 (by rw [i1];exact s3) (by rw [i2];exact s4))
 obtain ⟨b,hb⟩:=eY (decide (p.num<0))
 obtain ⟨d,hd⟩:=eY (decide (q.num<0))
 obtain ⟨n1,hn1⟩:=eY (len p.num.natAbs)
 obtain ⟨n2,hn2⟩:=eY (len p.den)
 obtain ⟨n3,hn3⟩:=eY (len q.num.natAbs)
 obtain ⟨n4,hn4⟩:=eY (len q.den)
 rw [hb,hn1,hn2] at HP
 rw [hd,hn3,hn4] at HN
 rw [hb,hd,hn1,hn2,hn3,hn4]
 clear hx hy hr hr2 hm i1 i2 s1 s2 s3 s4 hb hd hn1 hn2 hn3 hn4
 obtain ⟨wB,hwB⟩:=eX (((w.alloc (.cells #[.bool b,.slice A1 n1 c1,.slice A2 n2 c2] 43)).alloc (.cells #[.bool d,.slice A3 n3 c3,.slice A4 n4 c4] 43)).alloc (.cells #[.bool false,.slice none 0 0,.slice none 0 0] 43))
 obtain ⟨R,hR⟩:=eY w.heap.size
 obtain ⟨wA,b0,hsA,bA,hRB,k0,k1,k2,j0,j1,j2⟩:=CY' hR _ hwB
 have hS:=hid (fun (u:World) (hu:RB wA (R+2) u) (b o:Nat) (hb:b<R+2)=>hu.1.cell (p:=⟨b,o,none⟩) hb)
 have hRA:=hid (fun (u:World) (hu:RB wA (R+2) u)=>Ae' b0 (show Below wA.heap.size wA u by rw [hsA];exact hu.1))
 obtain ⟨u0,hu0⟩:=eX wB.drew
 have hB0:=hid (show RB wA (R+2) u0 by rw [hu0];exact hRB.call (AV wB))
 have HA:=hid (HN.out u0 (hRA.out u0 hB0.out))
 have hRF:=hid (fun (u:World) (hu:Below (R+2) wA u)=>Ae' b0 (show Below wA.heap.size wA u by rw [hsA];exact hu))
 clear hRB bA hsA b0 HN
 go_enter Tryz.func52,Tryz.ntmps52
 go_upto_region 1 with fail
 rw [←hwB]
 replace hR:=hid hR
 clear hwB
 refine wp_region_held_drew (S:=(fun w'=>(∀ b o,b<R+2→w'.cell? ⟨b,o,none⟩=wA.cell? ⟨b,o,none⟩))) (by kernel_rfl) ?_ (fun hHeld=>?_)
 · (try dsimp only)
   rw [←hu0]
   exact hS.out _ hB0.out
 rw [←hu0] at hHeld ⊢
 clear hu0
 refine tk (i:=0) (h:=?_)
 try simp only [Act.put,lt,ly,lu]
 refine tk (i:=1) (h:=?_)
 try simp only [Act.put,lt,ly,lu]
 refine rdz (i:=2) (h:=fun K hK=>?_)
 go_simp;go_at_call 90
 refine (HA.out).mono ?_
 rintro e w1 ⟨v1,rfl,hv1,b1⟩
 obtain ⟨BX,e9X,BX2,e9X2,rfl,-,-⟩:=id hv1.opened
 replace hv1:=hid hv1

 have hB1:=hid (hB0.out.call b1)
 clear HA b1
 refine hK.out _ _ ?_ (fun hHeld2=>?_)
 · (try dsimp only)
   exact hS.out _ hB1.out
 clear hK K hHeld
 try simp only [Act.put,lt,ly,lu]
 have hHeld:=hHeld2
 clear hHeld2
 have HB:=hid (HP.out w1 _ (hRA.out w1 hB1.out) hv1.out)
 clear HP
 refine rdz (i:=3) (h:=fun K hK=>?_)
 go_simp;go_at_call 88
 refine (HB.out).mono ?_
 rintro e w6 ⟨v6,rfl,hv6,b6⟩
 obtain ⟨B3,e3,B4,e4,rfl,g1,g2⟩:=hv6.opened
 replace g1:=hid g1
 replace g2:=hid g2

 have hB6:=hid (hB1.out.call b6)
 clear HB b6 hv1 hv6
 refine hK.out _ _ ?_ (fun hHeld2=>?_)
 · (try dsimp only)
   exact hS.out _ hB6.out
 clear hK K hHeld
 try simp only [Act.put,lt,ly,lu]
 have hHeld:=hHeld2
 clear hHeld2
 obtain ⟨sb,hsb⟩:=eY (decide (r.num<0))
 obtain ⟨m1,hm1⟩:=eY (len r.num.natAbs)
 obtain ⟨m2,hm2⟩:=eY (len r.den)
 rw [hm1] at g1 ⊢
 rw [hm2] at g2 ⊢
 rw [hsb]
 obtain ⟨hbF,⟨r0,r1,r2⟩,hkF⟩:=(hB6.out).store (b:=sb) (A:=B3) (n:=m1) (c:=e3) (A':=B4) (n':=m2) (c':=e4) _ rfl
 obtain ⟨x0,x1,x2,⟨l0,l1,l2⟩,f0,f1,f2⟩:=(hB6.out).cells
 have FIN:=hid (show Ah _ (.agg #[.bool sb,.slice B3 m1 e3,.slice B4 m2 e4]) r from ⟨_,_,by rw [hsb],hkF _ _ g1.out,hkF _ _ g2.out⟩)
 have FB:=hid hbF
 replace hsb:=hid hsb
 replace hm1:=hid hm1
 replace hm2:=hid hm2
 have hcells:=hid (fun (b o:Nat) (hb:b<R+2)=>FB.out.cell (p:=⟨b,o,none⟩) hb)
 clear hkF hbF
 refine rdz (i:=4) (h:=fun K hK=>?_)
 go_simp
 refine hK.out _ _ ?_ (fun hHeld2=>?_)
 · (try dsimp only)
   exact hcells.out
 clear hK K hHeld hHeld2
 try simp only [Act.put,lt,ly,lu]
 refine wpAnyH_done (by kernel_rfl) ?_ _
 go_wp2_with fail
 refine bP (v:=.agg #[.bool sb,.slice B3 m1 e3,.slice B4 m2 e4]) ?_ rfl ⟨_,rfl,FIN.out,hRF.out _ FB.out⟩
 simp [results,Tryz.results52,go_sem,r0,r1,r2]
end Go.Proofs.YtflopjfnppolgaaGreatDoor.Rf
namespace Go.Proofs.YtflopjfnppolgaaGreatDoor
open Lib (hid)
open Go.RowKit
open Vx
theorem Ef' {w:World} {vx vy:Value} {x y q:Rat} (hq:x+y=q) (hx:Ac' w vx x) (hy:Ac' w vy y) (hs:Aa' x≤536870912) (ht:Aa' y≤536870912) :
   Calls Tryz.prog 22 #[vx,vy] w (Az' w q):=by rw [←hq];exact F9' hx hy (nT hs (by omega)) (nT ht (by omega))
theorem Cw' {w:World} {vx vy:Value} {x y q:Rat} (hq:x - y=q) (hx:Ac' w vx x) (hy:Ac' w vy y) (hs:Aa' x≤536870912) (ht:Aa' y≤536870912) :
   Calls Tryz.prog 21 #[vx,vy] w (Az' w q):=by rw [←hq];exact Gb hx hy (nT hs (by omega)) (nT ht (by omega))
theorem CZ' {w:World} {vx vy:Value} {x y q:Rat} (hq:x*y=q) (hx:Ac' w vx x) (hy:Ac' w vy y) (hs:Aa' x≤536870912) (ht:Aa' y≤536870912) :
   Calls Tryz.prog 25 #[vx,vy] w (Az' w q):=by rw [←hq];exact DO hx hy (nT hs (by omega)) (nT ht (by omega))
theorem Bc {w:World} {vx:Value} {x:Rat} {n:Int} (hn:x.num.sign=n) (hx:Ac' w vx x):Calls Tryz.prog 35 #[vx] w (AW' w n):=by rw [←hn];exact AS' hx
theorem Bf' {w:World} {vx vy:Value} {x y:Rat} {n:Int} (hn:cmpQ x y=n) (hx:Ac' w vx x) (hy:Ac' w vy y) (hs:Aa' x≤536870912) (ht:Aa' y≤536870912) :
   Calls Tryz.prog 17 #[vx,vy] w (AW' w n):=by rw [←hn];exact A6' hx hy (nT hs (by omega)) (nT ht (by omega))
end Go.Proofs.YtflopjfnppolgaaGreatDoor
namespace Go.Proofs.YtflopjfnppolgaaGreatDoor.Rf
open Lib (hid)
open Go.RowKit
open Rx
open Vx (Aa' Ai Ai')
theorem AO {q:Rat} (h:Aa' q≤268435456):len q.num.natAbs≤1073741824∧len q.den≤1073741824:=by
 have h1:=Ai q
 have h2:=Ai' q
 have h3:=FQ q.num.natAbs
 have h4:=FQ q.den
 omega
theorem DD' {w:World} {vx vy:Value} {p q r:Rat} (hr:p+q=r) (hx:Ah w vx p) (hy:Ah w vy q) (s1:Aa' p≤268435456) (s2:Aa' q≤268435456) :
   Calls Tryz.prog 88 #[vx,vy] w (A2' w r):=Fg' hr hx hy (AO s1).1 (AO s1).2 (AO s2).1 (AO s2).2
theorem Fh {w:World} {vx vy:Value} {p q r:Rat} (hr:p - q=r) (hx:Ah w vx p) (hy:Ah w vy q) (s1:Aa' p≤268435456) (s2:Aa' q≤268435456) :
   Calls Tryz.prog 52 #[vx,vy] w (A2' w r):=HX' hr hx hy (AO s1).1 (AO s1).2 (AO s2).1 (AO s2).2
theorem HY' {w:World} {vx vy:Value} {p q r:Rat} (hr:p*q=r) (hx:Ah w vx p) (hy:Ah w vy q) (s1:Aa' p≤268435456) (s2:Aa' q≤268435456) :
   Calls Tryz.prog 89 #[vx,vy] w (A2' w r):=HU' hr hx hy (AO s1).1 (AO s1).2 (AO s2).1 (AO s2).2
theorem C0 {w:World} {vx vy:Value} {p q r:Rat} (h0:q≠0) (hr:p / q=r) (hx:Ah w vx p) (hy:Ah w vy q) (s1:Aa' p≤268435456) (s2:Aa' q≤268435456) :
   Calls Tryz.prog 85 #[vx,vy] w (A2' w r):=Fg h0 hr hx hy (AO s1).1 (AO s1).2 (AO s2).1 (AO s2).2
theorem A4' {w:World} {vx vy:Value} {p q:Rat} {r:Int} (hr:cmpQ p q=r) (hx:Ah w vx p) (hy:Ah w vy q) (s1:Aa' p≤268435456) (s2:Aa' q≤268435456) :
   Calls Tryz.prog 11 #[vx,vy] w (Gk w r):=HW' hr hx hy (AO s1).1 (AO s1).2 (AO s2).1 (AO s2).2
end Go.Proofs.YtflopjfnppolgaaGreatDoor.Rf
namespace Go.Proofs.YtflopjfnppolgaaGreatDoor
open Lib (hid)
open Go.RowKit
open Vx
open List renaming getElem?_toArray → lg, getElem?_cons_zero → lz, getElem?_cons_succ → ls, setIfInBounds_toArray → lt, set_cons_zero → ly, set_cons_succ → lu
theorem tk {P:Program} {ops:Array Oper} {Q:Exit→Act→World→Prop} {md:Region.Mode} {S:World→Prop} {i:Nat} {oi:Oper} {v:Value} {fuel:Nat} {listed:Array Bool} {a:Act} {w:World} (hi:ops[i]?=some oi:=by simp only [lg,lz,ls];rfl)
   (hb:(Region.noSelect ops && (Region.free md ops listed i && (Region.ready md ops listed).contains i))=true:=by kernel_rfl) (hQ:∀ c a w,Q (.panic c) (a.put oi.dst v) w→Q (.panic c) a w:=by exact fun _ _ _ h=>h) (hS:S w:=by assumption) (hy:YieldsIf P ops S oi v a:=by refine Or.inl ⟨by rfl,?_⟩;intro w hSw;(try dsimp only at hSw);go_simp;try with_reducible rfl)
   (h:wpAnyH P md ops Q S fuel (listed.setIfInBounds i true) (a.put oi.dst v) w):wpAnyH P md ops Q S (fuel+1) listed a w:=by
 rw [Bool.and_eq_true,Bool.and_eq_true] at hb
 exact wpAnyH_take hi hb.1 hb.2.1 hb.2.2 hQ hy hS h
theorem Al' {u:World} {n:Nat} {o:Obj} (h:u.heap[n]?=some o):n<u.heap.size:=(gE.1 h).1
theorem Ab' {u u':World} {n:Nat} {o:Obj} (h:u.heap[n]?=some o) (hb:Below u.heap.size u u'):u'.heap[n]?=some o:=(hb.block _ (Al' h)).trans h
end Go.Proofs.YtflopjfnppolgaaGreatDoor
namespace Go.Proofs.YtflopjfnppolgaaGreatDoor.Rf
open Lib (hid)
open Go.RowKit
open Rx
open Vx (Aa' Ai Ai')
open List renaming getElem?_toArray → lg, getElem?_cons_zero → lz, getElem?_cons_succ → ls, setIfInBounds_toArray → lt, set_cons_zero → ly, set_cons_succ → lu
def A9 (w w':World):Prop:=An' w w'∧∀ v z,Ap' w v z→Ap' w' v z
theorem A9.refl (w:World):A9 w w:=⟨fun _ _ h=>h,fun _ _ h=>h⟩
theorem A9.trans {w w' w'':World} (h:A9 w w') (k:A9 w' w''):A9 w w'':=⟨fun v q a=>k.1 v q (h.1 v q a),fun v q a=>k.2 v q (h.2 v q a)⟩
theorem A7' {w w' w'':World} (h:An' w w') (k:A9 w' w''):An' w w'':=fun v q a=>k.1 v q (h v q a)
theorem A9.num {w w':World} {v:Value} {q:Rat} (h:A9 w w') (hq:Ac' w v q):Ac' w' v q:=h.1.num hq
theorem A9.rat {w w':World} {v:Value} {q:Rat} (h:A9 w w') (hq:Ah w v q):Ah w' v q:=by
 obtain ⟨v1,v2,e,h1,h2⟩:=hq
 exact ⟨v1,v2,e,h.2 _ _ h1,h.2 _ _ h2⟩
theorem A9.box {w w':World} {v:Value} {a b:Rat} (h:A9 w w') (hq:Ao' w v a b):Ao' w' v a b:=by
 obtain ⟨v1,v2,v3,v4,e,h1,h2,h3,h4⟩:=hq
 exact ⟨v1,v2,v3,v4,e,h.1 _ _ h1,h.1 _ _ h2,h.1 _ _ h3,h.1 _ _ h4⟩
def Ay' (w:World) (v:Value) (a b:Rat):Prop :=
  ∃ v1 v2 v3 v4,v=.agg #[.bool (decide (a.num<0)),v1,v2,.bool (decide (b.num<0)),v3,v4]∧Ap' w v1 a.num.natAbs∧Ap' w v2 a.den∧Ap' w v3 b.num.natAbs∧Ap' w v4 b.den
theorem Ay'.keep {w w':World} {v:Value} {a b:Rat} (h:Ay' w v a b) (hb:Below w.heap.size w w'):Ay' w' v a b:=by
 obtain ⟨v1,v2,v3,v4,h0,h1,h2,h3,h4⟩:=h
 exact ⟨v1,v2,v3,v4,h0,h1.keep hb,h2.keep hb,h3.keep hb,h4.keep hb⟩
theorem A9.rbox {w w':World} {v:Value} {a b:Rat} (h:A9 w w') (hq:Ay' w v a b):Ay' w' v a b:=by
 obtain ⟨v1,v2,v3,v4,e,h1,h2,h3,h4⟩:=hq
 exact ⟨v1,v2,v3,v4,e,h.2 _ _ h1,h.2 _ _ h2,h.2 _ _ h3,h.2 _ _ h4⟩
theorem Ay'.opened {w:World} {v:Value} {a b:Rat} (h:Ay' w v a b):∃ A1 c1 A2 c2 A3 c3 A4 c4,
   v=.agg #[.bool (decide (a.num<0)),.slice A1 (len a.num.natAbs) c1,.slice A2 (len a.den) c2,.bool (decide (b.num<0)),.slice A3 (len b.num.natAbs) c3,.slice A4 (len b.den) c4] ∧
   Ah w (.agg #[.bool (decide (a.num<0)),.slice A1 (len a.num.natAbs) c1,.slice A2 (len a.den) c2]) a∧Ah w (.agg #[.bool (decide (b.num<0)),.slice A3 (len b.num.natAbs) c3,.slice A4 (len b.den) c4]) b:=by
 obtain ⟨v1,v2,v3,v4,rfl,h1,h2,h3,h4⟩:=h
 obtain ⟨A1,c1,rfl,-⟩:=id h1
 obtain ⟨A2,c2,rfl,-⟩:=id h2
 obtain ⟨A3,c3,rfl,-⟩:=id h3
 obtain ⟨A4,c4,rfl,-⟩:=id h4
 exact ⟨A1,c1,A2,c2,A3,c3,A4,c4,rfl,⟨_,_,rfl,h1,h2⟩,⟨_,_,rfl,h3,h4⟩⟩
theorem Ah.pair {w:World} {A1 c1 A2 c2 A3 c3 A4 c4} {a b:Rat} {n1 n2 n3 n4:Nat} {s1 s2:Bool} (h1:Ah w (.agg #[.bool s1,.slice A1 n1 c1,.slice A2 n2 c2]) a) (h2:Ah w (.agg #[.bool s2,.slice A3 n3 c3,.slice A4 n4 c4]) b) :
   Ay' w (.agg #[.bool s1,.slice A1 n1 c1,.slice A2 n2 c2,.bool s2,.slice A3 n3 c3,.slice A4 n4 c4]) a b:=by
 obtain ⟨u1,u2,e1,h3,h4⟩:=h1
 obtain ⟨u3,u4,e2,h5,h6⟩:=h2
 simp only [Value.agg.injEq,Array.mk.injEq,List.cons.injEq,Value.bool.injEq,and_true] at e1 e2
 obtain ⟨rfl,rfl,rfl⟩:=e1
 obtain ⟨rfl,rfl,rfl⟩:=e2
 exact ⟨_,_,_,_,rfl,h3,h4,h5,h6⟩
def B3' (w:World) (a b:Rat) (e:Ending) (w':World):Prop:=∃ v,e=.returned v∧Ay' w' v a b∧Below w.heap.size w w'
theorem ID {b b':Bool} {A1 A2 A3 A4:Option Addr} {n1 c1 n2 c2 n3 c3 n4 c4:Nat}:CF #[.bool b,.slice A1 n1 c1,.slice A2 n2 c2,.bool b',.slice A3 n3 c3,.slice A4 n4 c4]:=by
 intro i k n
 match i with
 | 0=>simp
 | 1=>simp
 | 2=>simp
 | 3=>simp
 | 4=>simp
 | 5=>simp
 | i+6=>simp
theorem BQ' {b b':Bool} {A1 A2 A3 A4:Option Addr} {n1 c1 n2 c2 n3 c3 n4 c4:Nat}:∀ (i:Nat) (k:Int),(#[.bool b,.slice A1 n1 c1,.slice A2 n2 c2,.bool b',.slice A3 n3 c3,.slice A4 n4 c4]:Array Value)[i]?≠some (.int .i64 k):=by
 intro i k
 match i with
 | 0=>simp
 | 1=>simp
 | 2=>simp
 | 3=>simp
 | 4=>simp
 | 5=>simp
 | i+6=>simp
theorem AE {w w':World} {b:Nat} {T:TypeId} {s1 t1:Bool} {A1 B1 A2 B2:Option Addr} {n1 c1 m1 d1 n2 c2 m2 d2:Nat} (L:w.heap[b]?=some (.cells #[.bool t1,.slice B1 m1 d1,.slice B2 m2 d2] T (0,0))) (hw:w'=(((w.setCell ⟨b,0,none⟩ (.bool s1)).setCell ⟨b,1,none⟩ (.slice A1 n1 c1)).setCell ⟨b,2,none⟩ (.slice A2 n2 c2))) :
   w'.heap[b]?=some (.cells #[.bool s1,.slice A1 n1 c1,.slice A2 n2 c2] T (0,0))∧(∀ (n:Nat) (o:Obj),n≠b→w.heap[n]?=some o→w'.heap[n]?=some o)∧A9 w w'∧(∀ (N:Nat) (wB:World),N≤b→Below N wB w→Below N wB w'):=by
 have g1:=heap_setCell_same w b 0 _ _ (.bool s1) L
 have g2:=heap_setCell_same _ b 1 _ _ (.slice A1 n1 c1) g1
 have g3:=heap_setCell_same _ b 2 _ _ (.slice A2 n2 c2) g2
 have k0:Aq' 3 T w b w:=Aq'.start rfl (A1' _ _ _ _ _ _ _) L
 have k1:=k0.set (i:=0) (AU s1)
 have k2:=k1.set (i:=1) (Ax A1 n1 c1)
 have S:An' w w':=by rw [hw];exact ((((An'.refl w).put k0).put k1).put k2)
 have R:∀ v z,Ap' w v z→Ap' w' v z:=fun v z hv=>by rw [hw];exact (((hv.other (i:=0) (u:=.bool s1) L B2').other (i:=1) (u:=.slice A1 n1 c1) g1 B2').other (i:=2) (u:=.slice A2 n2 c2) g2 B2')
 refine ⟨by rw [hw,g3];rfl,fun n o hne ho=>by rw [hw,heap_setCell_other _ _ _ _ hne,heap_setCell_other _ _ _ _ hne,heap_setCell_other _ _ _ _ hne];exact ho,⟨S,R⟩,fun N wB hN hB=>?_⟩
 rw [hw];exact (((hB.setCell (p:=⟨b,0,none⟩) hN _).setCell (p:=⟨b,1,none⟩) hN _).setCell (p:=⟨b,2,none⟩) hN _)
theorem AF {w w':World} {b:Nat} {T:TypeId} {s1 t1 s2 t2:Bool} {A1 B1 A2 B2 A3 B3 A4 B4:Option Addr} {n1 c1 m1 d1 n2 c2 m2 d2 n3 c3 m3 d3 n4 c4 m4 d4:Nat} (L:w.heap[b]?=some (.cells #[.bool t1,.slice B1 m1 d1,.slice B2 m2 d2,.bool t2,.slice B3 m3 d3,.slice B4 m4 d4] T (0,0))) (hw:w'=((((((w.setCell ⟨b,0,none⟩ (.bool s1)).setCell ⟨b,1,none⟩ (.slice A1 n1 c1)).setCell ⟨b,2,none⟩ (.slice A2 n2 c2)).setCell ⟨b,3,none⟩ (.bool s2)).setCell ⟨b,4,none⟩ (.slice A3 n3 c3)).setCell ⟨b,5,none⟩ (.slice A4 n4 c4))) :
   w'.heap[b]?=some (.cells #[.bool s1,.slice A1 n1 c1,.slice A2 n2 c2,.bool s2,.slice A3 n3 c3,.slice A4 n4 c4] T (0,0))∧(∀ (n:Nat) (o:Obj),n≠b→w.heap[n]?=some o→w'.heap[n]?=some o)∧A9 w w'∧(∀ (N:Nat) (wB:World),N≤b→Below N wB w→Below N wB w'):=by
 have g1:=heap_setCell_same w b 0 _ _ (.bool s1) L
 have g2:=heap_setCell_same _ b 1 _ _ (.slice A1 n1 c1) g1
 have g3:=heap_setCell_same _ b 2 _ _ (.slice A2 n2 c2) g2
 have g4:=heap_setCell_same _ b 3 _ _ (.bool s2) g3
 have g5:=heap_setCell_same _ b 4 _ _ (.slice A3 n3 c3) g4
 have g6:=heap_setCell_same _ b 5 _ _ (.slice A4 n4 c4) g5
 have k0:Aq' 6 T w b w:=Aq'.start rfl ID L
 have k1:=k0.set (i:=0) (AU s1)
 have k2:=k1.set (i:=1) (Ax A1 n1 c1)
 have k3:=k2.set (i:=2) (Ax A2 n2 c2)
 have k4:=k3.set (i:=3) (AU s2)
 have k5:=k4.set (i:=4) (Ax A3 n3 c3)
 have S:An' w w':=by rw [hw];exact (((((((An'.refl w).put k0).put k1).put k2).put k3).put k4).put k5)
 have R:∀ v z,Ap' w v z→Ap' w' v z:=fun v z hv=>by rw [hw];exact ((((((hv.other (i:=0) (u:=.bool s1) L BQ').other (i:=1) (u:=.slice A1 n1 c1) g1 BQ').other (i:=2) (u:=.slice A2 n2 c2) g2 BQ').other (i:=3) (u:=.bool s2) g3 BQ').other (i:=4) (u:=.slice A3 n3 c3) g4 BQ').other (i:=5) (u:=.slice A4 n4 c4) g5 BQ')
 refine ⟨by rw [hw,g6];rfl,fun n o hne ho=>by rw [hw,heap_setCell_other _ _ _ _ hne,heap_setCell_other _ _ _ _ hne,heap_setCell_other _ _ _ _ hne,heap_setCell_other _ _ _ _ hne,heap_setCell_other _ _ _ _ hne,heap_setCell_other _ _ _ _ hne];exact ho,⟨S,R⟩,fun N wB hN hB=>?_⟩
 rw [hw];exact ((((((hB.setCell (p:=⟨b,0,none⟩) hN _).setCell (p:=⟨b,1,none⟩) hN _).setCell (p:=⟨b,2,none⟩) hN _).setCell (p:=⟨b,3,none⟩) hN _).setCell (p:=⟨b,4,none⟩) hN _).setCell (p:=⟨b,5,none⟩) hN _)
theorem hun {wB wS w:World} {G:Nat} (h:Ah' wB G wS w):(∀ b o,b<G→w.cell? ⟨b,o,none⟩=wB.cell? ⟨b,o,none⟩)∧Below G wB w∧An' wS w:=h
theorem Av' {wB wS w w':World} {N:Nat} (h:Ah' wB N wS w) (e:Hid (N≤wB.heap.size)) (hb:Below w.heap.size w w'):Ah' wB N wS w':=Ah'.call h e.out hb
end Go.Proofs.YtflopjfnppolgaaGreatDoor.Rf
