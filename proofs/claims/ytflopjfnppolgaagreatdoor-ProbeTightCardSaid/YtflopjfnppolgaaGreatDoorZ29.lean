/-
  Contracts of the functions that the law calls, for every input (Rz Sa Sb Sc Sd Se Sf).
-/
import Derived.Test.YtflopjfnppolgaaGreatDoorZ00
import Derived.Test.YtflopjfnppolgaaGreatDoorZ26
import Derived.Test.YtflopjfnppolgaaGreatDoorZ17
import Derived.Test.YtflopjfnppolgaaGreatDoorZ18
import Derived.Test.YtflopjfnppolgaaGreatDoorZ27
import Derived.Deep.LoopGhost
import Derived.Test.YtflopjfnppolgaaGreatDoorZ22
import Derived.Test.YtflopjfnppolgaaGreatDoorZ25
import Derived.Test.YtflopjfnppolgaaGreatDoorZ28
import Derived.Test.YtflopjfnppolgaaGreatDoorZ19
import Derived.Test.YtflopjfnppolgaaGreatDoorZ11
import Derived.Test.YtflopjfnppolgaaGreatDoorZ12
set_option linter.all false
set_option maxRecDepth 100000
set_option maxHeartbeats 40000000
namespace Go.Proofs.YtflopjfnppolgaaGreatDoor
open Lib (hid)
open Go.RowKit
open Vx
end Go.Proofs.YtflopjfnppolgaaGreatDoor
namespace Go.Proofs.YtflopjfnppolgaaGreatDoor.Rf
open Lib (hid)
open Go.RowKit
open Rx
open Vx (Aa' Ai Ai')
open List renaming getElem?_toArray → lg, getElem?_cons_zero → lz, getElem?_cons_succ → ls, setIfInBounds_toArray → lt, set_cons_zero → ly, set_cons_succ → lu
theorem FQ (n:Nat):len n≤4*Vx.len n:=by
 apply AA
 rw [Nat.pow_mul]
 exact Vx.Ao n
theorem Ee {w:World} {b:Bool} {A A':Option Addr} {n c n' c':Nat} {T:TypeId}:∀ u,u=w.alloc (.cells #[.bool b,.slice A n c,.slice A' n' c'] T) →
   Below w.heap.size w u∧u.cell? ⟨w.heap.size,0,none⟩=some (.bool b)∧u.cell? ⟨w.heap.size,1,none⟩=some (.slice A n c)∧u.cell? ⟨w.heap.size,2,none⟩=some (.slice A' n' c'):=by
 intro u hu
 have g:=hA_ w (.cells #[.bool b,.slice A n c,.slice A' n' c'] T)
 have h:=Am' w (.cells #[.bool b,.slice A n c,.slice A' n' c'] T)
 rw [←hu] at g h
 exact ⟨h,cR _ _ _ _ _ _ g,cR _ _ _ _ _ _ g,cR _ _ _ _ _ _ g⟩
theorem Gj' (q:Rat):(decide (q.num<0)=true∧q.num.sign = -1)∨(decide (q.num<0)=false∧min ((len q.num.natAbs:Nat):Int) 1=q.num.sign):=by
 rcases Int.lt_trichotomy q.num 0 with h | h | h
 · exact Or.inl ⟨dT_ h,Int.sign_eq_neg_one_of_neg h⟩
 · refine Or.inr ⟨dF_ (by omega),?_⟩
   rw [h];rfl
 · refine Or.inr ⟨dF_ (by omega),?_⟩
   rw [Int.sign_eq_one_of_pos h]
   have:0<len q.num.natAbs:=Ak.2 (by omega)
   omega
def Gk (w:World) (n:Int) (e:Ending) (w':World):Prop:=e=.returned (.int .i64 n)∧Below w.heap.size w w'
theorem CG {w:World} {vx:Value} {q:Rat} {r:Int} (hr:q.num.sign=r) (hx:Ah w vx q):Calls Tryz.prog 41 #[vx] w (Gk w r):=by
 obtain ⟨A1,c1,A2,c2,rfl,-,-⟩:=hx.opened
 have z:=Gj' q
 rw [hr] at z
 obtain ⟨b,hb⟩:=eY (decide (q.num<0))
 obtain ⟨n1,hn1⟩:=eY (len q.num.natAbs)
 obtain ⟨n2,hn2⟩:=eY (len q.den)
 rw [hb,hn1] at z
 rw [hb,hn1,hn2]
 clear hb hn1 hn2 hx hr
 obtain ⟨wB,hwB⟩:=eX (w.alloc (.cells #[.bool b,.slice A1 n1 c1,.slice A2 n2 c2] 43))
 obtain ⟨b0,k0,k1,k2⟩:=Ee _ hwB
 obtain ⟨R,hR⟩:=eY w.heap.size
 rw [hR] at k0 k1 k2
 replace b0:=hid b0
 rcases z with ⟨rfl,rfl⟩ | ⟨rfl,z⟩
 all_goals
   go_enter Tryz.func41,Tryz.ntmps41
   go_upto_region 1 with fail
   rw [←hwB]
   clear hwB hR
   go_wp2_with fail
   go_ret
   exact ⟨rfl,b0.out⟩
theorem HT' {w:World} {b:Bool} {A A':Option Addr} {n c n' c' R:Nat} (hR:w.heap.size=R):∀ u,u=(w.alloc (.cells #[.bool b,.slice A n c,.slice A' n' c'] 43)).alloc (.cells #[.bool false,.slice none 0 0,.slice none 0 0] 43) →
   ∃ wA,Below w.heap.size w wA∧wA.heap.size=R+1∧Below wA.heap.size wA u∧RB wA (R+1) u∧u.cell? ⟨R,0,none⟩=some (.bool b)∧u.cell? ⟨R,1,none⟩=some (.slice A n c)∧u.cell? ⟨R,2,none⟩=some (.slice A' n' c'):=by
 intro u hu
 obtain ⟨wA,hwA⟩:=eX (w.alloc (.cells #[.bool b,.slice A n c,.slice A' n' c'] 43))
 obtain ⟨b0,k0,k1,k2⟩:=Ee _ hwA
 have hs:wA.heap.size=R+1:=by rw [hwA,World.size_alloc,hR]
 rw [←hwA] at hu
 have hb:=Am' wA (.cells #[.bool false,.slice none 0 0,.slice none 0 0] 43)
 have hr:=RB.start wA
 rw [←hu] at hb hr
 rw [hs] at hr
 rw [hR] at k0 k1 k2
 have hl:R<wA.heap.size:=by omega
 exact ⟨wA,b0,hs,hb,hr,(hb.cell (p:=⟨R,0,none⟩) hl).trans k0,(hb.cell (p:=⟨R,1,none⟩) hl).trans k1,(hb.cell (p:=⟨R,2,none⟩) hl).trans k2⟩
theorem Ff' (q:Rat):(-q).num.natAbs=q.num.natAbs∧(-q).den=q.den∧decide ((-q).num<0)=(!decide (q.num<0) && decide (0<len q.num.natAbs)):=by
 rw [Rat.neg_num,Rat.neg_den]
 refine ⟨Int.natAbs_neg _,rfl,?_⟩
 rcases Int.lt_trichotomy q.num 0 with h | h | h
 · rw [dT_ h,dF_ (by omega)];rfl
 · rw [h];rfl
 · rw [dF_ (p:=q.num<0) (by omega),dT_ (by omega),dT_ (Ak.2 (by omega))];rfl
theorem DD {w:World} {vx:Value} {q r:Rat} (hr : -q=r) (hx:Ah w vx q):Calls Tryz.prog 90 #[vx] w (A2' w r):=by
 obtain ⟨A1,c1,A2,c2,rfl,h1,h2⟩:=hx.opened
 obtain ⟨p1,p2,p3⟩:=Ff' q
 rw [hr] at p1 p2 p3
 obtain ⟨b,hb⟩:=eY (decide (q.num<0))
 obtain ⟨N,hN⟩:=eY q.num.natAbs
 obtain ⟨D,hD⟩:=eY q.den
 rw [hb,hN] at p3
 rw [hN] at p1 h1
 rw [hD] at p2 h2
 rw [hb,hN,hD]
 obtain ⟨n1,hn1⟩:=eY (len N)
 obtain ⟨n2,hn2⟩:=eY (len D)
 rw [hn1] at h1 p3 ⊢
 rw [hn2] at h2 ⊢
 replace hn1:=hid hn1
 replace hn2:=hid hn2
 clear hb hN hD hx hr
 obtain ⟨wB,hwB⟩:=eX ((w.alloc (.cells #[.bool b,.slice A1 n1 c1,.slice A2 n2 c2] 43)).alloc (.cells #[.bool false,.slice none 0 0,.slice none 0 0] 43))
 obtain ⟨R,hR⟩:=eY w.heap.size
 obtain ⟨wA,b0,hsA,bA,hRB,k0,k1,k2⟩:=HT' hR _ hwB
 have h1B:=hid (h1.keep (Ae' b0 bA))
 have h2B:=hid (h2.keep (Ae' b0 bA))
 replace b0:=hid b0
 replace hRB:=hid hRB
 replace p1:=hid p1
 replace p2:=hid p2
 replace p3:=hid p3
 replace hsA:=hid hsA
 clear h1 h2 bA
 rcases b with _ | _
 · rcases Nat.eq_zero_or_pos n1 with h | h
   · have z1:decide (((n1:Nat):Int)>0)=false:=dF_ (by omega)
     have z2:decide (0<n1)=false:=dF_ (by omega)
     have hx0:=hid h
     clear h
     go_enter Tryz.func90,Tryz.ntmps90
     go_upto_region 1 with fail
     rw [←hwB]
     replace hR:=hid hR
     clear hwB
     obtain ⟨hbF,⟨r0,r1,r2⟩,hkF⟩:=(hRB.out).store (b:=false) (A:=A1) (n:=n1) (c:=c1) (A':=A2) (n':=n2) (c':=c2) _ rfl
     obtain ⟨u0,u1,u2,⟨j0,j1,j2⟩,f0,f1,f2⟩:=(hRB.out).cells
     have F:=hid (show Ah _ (.agg #[.bool false,.slice A1 n1 c1,.slice A2 n2 c2]) r from ⟨_,_,by rw [p3.out];rw [z2];rfl,by rw [p1.out];exact hkF _ _ h1B.out,by rw [p2.out];exact hkF _ _ h2B.out⟩)
     have FB:=hid hbF
     clear hbF hkF
     go_wp2_with fail
     refine bP (v:=.agg #[.bool false,.slice A1 n1 c1,.slice A2 n2 c2]) ?_ rfl ⟨_,rfl,F.out,Ae' b0.out (by rw [hsA.out];exact FB.out)⟩
     simp [results,Tryz.results90,go_sem,r0,r1,r2]
   · have z1:decide (((n1:Nat):Int)>0)=true:=dT_ (by omega)
     have z2:decide (0<n1)=true:=dT_ (by omega)
     go_enter Tryz.func90,Tryz.ntmps90
     go_upto_region 1 with fail
     rw [←hwB]
     replace hR:=hid hR
     clear hwB
     obtain ⟨hbF,⟨r0,r1,r2⟩,hkF⟩:=(hRB.out).store (b:=true) (A:=A1) (n:=n1) (c:=c1) (A':=A2) (n':=n2) (c':=c2) _ rfl
     obtain ⟨u0,u1,u2,⟨j0,j1,j2⟩,f0,f1,f2⟩:=(hRB.out).cells
     have F:=hid (show Ah _ (.agg #[.bool true,.slice A1 n1 c1,.slice A2 n2 c2]) r from ⟨_,_,by rw [p3.out];rw [z2];rfl,by rw [p1.out];exact hkF _ _ h1B.out,by rw [p2.out];exact hkF _ _ h2B.out⟩)
     have FB:=hid hbF
     clear hbF hkF
     go_wp2_with fail
     refine bP (v:=.agg #[.bool true,.slice A1 n1 c1,.slice A2 n2 c2]) ?_ rfl ⟨_,rfl,F.out,Ae' b0.out (by rw [hsA.out];exact FB.out)⟩
     simp [results,Tryz.results90,go_sem,r0,r1,r2]
 · go_enter Tryz.func90,Tryz.ntmps90
   go_upto_region 1 with fail
   rw [←hwB]
   replace hR:=hid hR
   clear hwB
   obtain ⟨hbF,⟨r0,r1,r2⟩,hkF⟩:=(hRB.out).store (b:=false) (A:=A1) (n:=n1) (c:=c1) (A':=A2) (n':=n2) (c':=c2) _ rfl
   obtain ⟨u0,u1,u2,⟨j0,j1,j2⟩,f0,f1,f2⟩:=(hRB.out).cells
   have F:=hid (show Ah _ (.agg #[.bool false,.slice A1 n1 c1,.slice A2 n2 c2]) r from ⟨_,_,by rw [p3.out];rfl,by rw [p1.out];exact hkF _ _ h1B.out,by rw [p2.out];exact hkF _ _ h2B.out⟩)
   have FB:=hid hbF
   clear hbF hkF
   go_wp2_with fail
   refine bP (v:=.agg #[.bool false,.slice A1 n1 c1,.slice A2 n2 c2]) ?_ rfl ⟨_,rfl,F.out,Ae' b0.out (by rw [hsA.out];exact FB.out)⟩
   simp [results,Tryz.results90,go_sem,r0,r1,r2]
theorem CY' {w:World} {b d:Bool} {A A' B B':Option Addr} {n c n' c' m e m' e' R:Nat} (hR:w.heap.size=R):∀ u,u=((w.alloc (.cells #[.bool b,.slice A n c,.slice A' n' c'] 43)).alloc (.cells #[.bool d,.slice B m e,.slice B' m' e'] 43)).alloc (.cells #[.bool false,.slice none 0 0,.slice none 0 0] 43) →
   ∃ wA,Below w.heap.size w wA∧wA.heap.size=R+2∧Below wA.heap.size wA u∧RB wA (R+2) u∧wA.cell? ⟨R,0,none⟩=some (.bool b)∧wA.cell? ⟨R,1,none⟩=some (.slice A n c)∧wA.cell? ⟨R,2,none⟩=some (.slice A' n' c') ∧
     wA.cell? ⟨R+1,0,none⟩=some (.bool d)∧wA.cell? ⟨R+1,1,none⟩=some (.slice B m e)∧wA.cell? ⟨R+1,2,none⟩=some (.slice B' m' e'):=by
 intro u hu
 obtain ⟨w1,hw1⟩:=eX (w.alloc (.cells #[.bool b,.slice A n c,.slice A' n' c'] 43))
 rw [←hw1] at hu
 obtain ⟨b0,k0,k1,k2⟩:=Ee _ hw1
 have hs1:w1.heap.size=R+1:=by rw [hw1,World.size_alloc,hR]
 obtain ⟨wA,hwA⟩:=eX (w1.alloc (.cells #[.bool d,.slice B m e,.slice B' m' e'] 43))
 obtain ⟨b1,j0,j1,j2⟩:=Ee _ hwA
 have hs:wA.heap.size=R+2:=by rw [hwA,World.size_alloc,hs1]
 rw [←hwA] at hu
 have hb:=Am' wA (.cells #[.bool false,.slice none 0 0,.slice none 0 0] 43)
 have hr:=RB.start wA
 rw [←hu] at hb hr
 rw [hs] at hr
 rw [hR] at k0 k1 k2
 rw [hs1] at j0 j1 j2
 have hl:R<w1.heap.size:=by omega
 exact ⟨wA,Ae' b0 b1,hs,hb,hr,(b1.cell (p:=⟨R,0,none⟩) hl).trans k0,(b1.cell (p:=⟨R,1,none⟩) hl).trans k1,(b1.cell (p:=⟨R,2,none⟩) hl).trans k2,j0,j1,j2⟩
theorem CZ (q:Rat):q.num=if decide (q.num<0)=true then -((q.num.natAbs:Nat):Int) else ((q.num.natAbs:Nat):Int):=by
 by_cases h:q.num<0
 · rw [if_pos (dT_ h)];omega
 · rw [if_neg (by rw [dF_ h];decide)];omega
theorem CN' (b d:Bool) (x y:Nat):(if (b != d)=true then -((x*y:Nat):Int) else ((x*y:Nat):Int))=(if b=true then -((x:Nat):Int) else ((x:Nat):Int))*(if d=true then -((y:Nat):Int) else ((y:Nat):Int)):=by
 rw [Int.natCast_mul]
 cases b <;> cases d <;> simp [Int.neg_mul,Int.mul_neg]
theorem IU (d:Bool) (x y:Nat):(if d=true then -((x:Nat):Int) else ((x:Nat):Int))*(if d=true then -((y:Nat):Int) else ((y:Nat):Int))=((x:Nat):Int)*((y:Nat):Int):=by
 cases d <;> simp [Int.neg_mul,Int.mul_neg]
theorem IB' (p q:Rat):rat (decide (p.num<0) != decide (q.num<0)) (p.num.natAbs*q.num.natAbs) (p.den*q.den)=p*q:=by
 unfold rat
 rw [CN',←CZ,←CZ]
 conv=>rhs;rw [←Rat.mkRat_self p,←Rat.mkRat_self q,Rat.mkRat_mul_mkRat]
theorem IC {p q:Rat} (h:q≠0):rat (decide (p.num<0) != decide (q.num<0)) (p.num.natAbs*q.den) (p.den*q.num.natAbs)=p / q:=by
 have hn:0<q.num.natAbs:=by
   have:q.num≠0:=fun e=>h (Rat.num_eq_zero.1 e)
   omega
 have key:rat (decide (p.num<0) != decide (q.num<0)) (p.num.natAbs*q.den) (p.den*q.num.natAbs)*q=p:=by
   unfold rat
   rw [CN',←CZ]
   conv=>lhs;rhs;rw [←Rat.mkRat_self q]
   rw [Rat.mkRat_mul_mkRat]
   conv=>rhs;rw [←Rat.mkRat_self p]
   rw [Rat.mkRat_eq_iff (Nat.ne_of_gt (Nat.mul_pos (Nat.mul_pos p.den_pos hn) q.den_pos)) p.den_nz]
   have h2:=IU (decide (q.num<0)) q.den q.num.natAbs
   rw [←CZ] at h2
   rw [Int.mul_assoc p.num,h2]
   push_cast
   grind
 generalize rat (decide (p.num<0) != decide (q.num<0)) (p.num.natAbs*q.den) (p.den*q.num.natAbs)=Q at key ⊢
 rw [←key]
 grind
theorem HU' {w:World} {vx vy:Value} {p q r:Rat} (hr:p*q=r) (hx:Ah w vx p) (hy:Ah w vy q) (s1:len p.num.natAbs≤1073741824) (s2:len p.den≤1073741824) (s3:len q.num.natAbs≤1073741824) (s4:len q.den≤1073741824):Calls Tryz.prog 89 #[vx,vy] w (A2' w r):=by
 obtain ⟨A1,c1,A2,c2,rfl,h1,h2⟩:=hx.opened
 obtain ⟨A3,c3,A4,c4,rfl,h3,h4⟩:=hy.opened
 have hrat:=IB' p q
 rw [hr] at hrat
 have hpos:0<p.den*q.den:=Nat.mul_pos p.den_pos q.den_pos
 obtain ⟨b,hb⟩:=eY (decide (p.num<0))
 obtain ⟨d,hd⟩:=eY (decide (q.num<0))
 obtain ⟨N,hN⟩:=eY p.num.natAbs
 obtain ⟨D,hD⟩:=eY p.den
 obtain ⟨M,hM⟩:=eY q.num.natAbs
 obtain ⟨E,hE⟩:=eY q.den
 rw [hb,hd,hN,hD,hM,hE] at hrat
 rw [hN] at h1 s1
 rw [hD] at h2 s2
 rw [hM] at h3 s3
 rw [hE] at h4 s4
 rw [hD,hE] at hpos
 rw [hb,hd,hN,hD,hM,hE]
 obtain ⟨n1,hn1⟩:=eY (len N)
 obtain ⟨n2,hn2⟩:=eY (len D)
 obtain ⟨n3,hn3⟩:=eY (len M)
 obtain ⟨n4,hn4⟩:=eY (len E)
 have t1:=At' N M
 have t2:=At' D E
 have HT1:=fun (u:World) (hu:Below w.heap.size w u)=>Bo (w:=u) (h1.keep hu) (h3.keep hu) (by omega) (by omega)
 have HT2:=fun (u:World) (hu:Below w.heap.size w u)=>Bo (w:=u) (h2.keep hu) (h4.keep hu) (by omega) (by omega)
 have u1':len (N*M)≤68719476736:=by omega
 have u2':len (D*E)≤68719476736:=by omega
 obtain ⟨X,hX⟩:=eY (N*M)
 obtain ⟨Y,hY⟩:=eY (D*E)
 rw [hX] at HT1 hrat u1'
 rw [hY] at HT2 hrat u2' hpos
 rw [hn1,hn2,hn3,hn4]
 rw [hn1,hn3] at HT1;rw [hn2,hn4] at HT2
 replace HT1:=hid HT1
 replace HT2:=hid HT2
 replace hrat:=hid hrat
 replace u1':=hid u1'
 replace u2':=hid u2'
 replace hpos:=hid hpos
 clear hb hd hN hD hM hE hn1 hn2 hn3 hn4 t1 t2 hX hY h1 h2 h3 h4 s1 s2 s3 s4 hr hx hy
 obtain ⟨wB,hwB⟩:=eX (((w.alloc (.cells #[.bool b,.slice A1 n1 c1,.slice A2 n2 c2] 43)).alloc (.cells #[.bool d,.slice A3 n3 c3,.slice A4 n4 c4] 43)).alloc (.cells #[.bool false,.slice none 0 0,.slice none 0 0] 43))
 obtain ⟨R,hR⟩:=eY w.heap.size
 obtain ⟨wA,b0,hsA,bA,hRB,k0,k1,k2,j0,j1,j2⟩:=CY' hR _ hwB
 have hS:=hid (fun (u:World) (hu:RB wA (R+2) u) (b o:Nat) (hb:b<R+2)=>hu.1.cell (p:=⟨b,o,none⟩) hb)
 have hRA:=hid (fun (u:World) (hu:RB wA (R+2) u)=>Ae' b0 (show Below wA.heap.size wA u by rw [hsA];exact hu.1))
 obtain ⟨u0,hu0⟩:=eX wB.drew
 have hB0:=hid (show RB wA (R+2) u0 by rw [hu0];exact hRB.call (AV wB))
 have HA:=hid (HT1.out u0 (hRA.out u0 hB0.out))
 have hRF:=hid (fun (u:World) (hu:Below (R+2) wA u)=>Ae' b0 (show Below wA.heap.size wA u by rw [hsA];exact hu))
 clear hRB bA HT1 hsA b0
 obtain ⟨mb,hmb⟩:=eY ((b != d))
 rw [hmb] at hrat
 have hmb2:=hid hmb
 clear hmb
 have hgo:True:=trivial
 · go_enter Tryz.func89,Tryz.ntmps89
   go_upto_region 1 with fail
   rw [←hwB]
   replace hR:=hid hR
   clear hwB
   refine wp_region_held_drew (S:=(fun w'=>(∀ b o,b<R+2→w'.cell? ⟨b,o,none⟩=wA.cell? ⟨b,o,none⟩))) (by kernel_rfl) ?_ (fun hHeld=>?_)
   · (try dsimp only)
     rw [←hu0]
     exact hS.out _ hB0.out
   rw [←hu0] at hHeld ⊢
   clear hu0
   refine tk (i:=0) (h:=?_)
   try simp only [Act.put,lt,ly,lu]
   refine tk (i:=1) (h:=?_)
   try simp only [Act.put,lt,ly,lu]
   refine tk (i:=2) (h:=?_)
   try simp only [Act.put,lt,ly,lu]
   refine tk (i:=3) (h:=?_)
   try simp only [Act.put,lt,ly,lu]
   refine tk (i:=4) (v:=.bool mb) (hy:=?_) (h:=?_)
   · refine Or.inl ⟨by rfl,?_⟩
     intro w hSw
     rw [←hmb2.out]
     cases b <;> cases d <;> (go_simp;try with_reducible rfl)
   try simp only [Act.put,lt,ly,lu]
   refine tk (i:=5) (h:=?_)
   try simp only [Act.put,lt,ly,lu]
   refine tk (i:=6) (h:=?_)
   try simp only [Act.put,lt,ly,lu]
   refine tk (i:=7) (h:=?_)
   try simp only [Act.put,lt,ly,lu]
   refine tk (i:=8) (h:=?_)
   try simp only [Act.put,lt,ly,lu]
   refine tk (i:=10) (h:=?_)
   try simp only [Act.put,lt,ly,lu]
   refine tk (i:=11) (h:=?_)
   try simp only [Act.put,lt,ly,lu]
   refine tk (i:=12) (h:=?_)
   try simp only [Act.put,lt,ly,lu]
   refine tk (i:=13) (h:=?_)
   try simp only [Act.put,lt,ly,lu]
   refine rdz (i:=9) (h:=fun K hK=>?_)
   go_simp;go_at_call 43
   refine (HA.out).mono ?_
   rintro e w1 ⟨v1,rfl,hv1,b1⟩
   obtain ⟨B1,e1,rfl,-,-,-,-⟩:=id hv1
   replace hv1:=hid hv1

   have hB1:=hid (hB0.out.call b1)
   clear HA b1
   refine hK.out _ _ ?_ (fun hHeld2=>?_)
   · (try dsimp only)
     exact hS.out _ hB1.out
   clear hK K hHeld
   try simp only [Act.put,lt,ly,lu]
   have hHeld:=hHeld2
   clear hHeld2
   have HB:=hid (HT2.out w1 (hRA.out w1 hB1.out))
   clear HT2
   refine rdz (i:=14) (h:=fun K hK=>?_)
   go_simp;go_at_call 43
   refine (HB.out).mono ?_
   rintro e w2 ⟨v2,rfl,hv2,b2⟩
   obtain ⟨B2,e2,rfl,-,-,-,-⟩:=id hv2
   replace hv2:=hid hv2

   have hB2:=hid (hB1.out.call b2)
   have hv1b:=hid (hv1.out.keep b2)
   clear HB b2 hv1
   refine hK.out _ _ ?_ (fun hHeld2=>?_)
   · (try dsimp only)
     exact hS.out _ hB2.out
   clear hK K hHeld
   try simp only [Act.put,lt,ly,lu]
   have hHeld:=hHeld2
   clear hHeld2
   have HM:=hid (CA' hrat.out hv1b.out hv2.out hpos.out u1'.out u2'.out)
   refine rdz (i:=15) (h:=fun K hK=>?_)
   go_simp;go_at_call 125
   refine (HM.out).mono ?_
   rintro e w3 ⟨v3,rfl,hv3,b3⟩
   obtain ⟨B3,e3,B4,e4,rfl,g1,g2⟩:=hv3.opened
   replace g1:=hid g1
   replace g2:=hid g2

   have hB3:=hid (hB2.out.call b3)
   clear HM b3 hv3 hv1b hv2
   refine hK.out _ _ ?_ (fun hHeld2=>?_)
   · (try dsimp only)
     exact hS.out _ hB3.out
   clear hK K hHeld
   try simp only [Act.put,lt,ly,lu]
   have hHeld:=hHeld2
   clear hHeld2
   obtain ⟨sb,hsb⟩:=eY (decide (r.num<0))
   obtain ⟨m1,hm1⟩:=eY (len r.num.natAbs)
   obtain ⟨m2,hm2⟩:=eY (len r.den)
   rw [hm1] at g1 ⊢
   rw [hm2] at g2 ⊢
   rw [hsb]
   obtain ⟨hbF,⟨r0,r1,r2⟩,hkF⟩:=(hB3.out).store (b:=sb) (A:=B3) (n:=m1) (c:=e3) (A':=B4) (n':=m2) (c':=e4) _ rfl
   obtain ⟨x0,x1,x2,⟨l0,l1,l2⟩,f0,f1,f2⟩:=(hB3.out).cells
   have FIN:=hid (show Ah _ (.agg #[.bool sb,.slice B3 m1 e3,.slice B4 m2 e4]) r from ⟨_,_,by rw [hsb],hkF _ _ g1.out,hkF _ _ g2.out⟩)
   have FB:=hid hbF
   replace hsb:=hid hsb
   replace hm1:=hid hm1
   replace hm2:=hid hm2
   have hcells:=hid (fun (b o:Nat) (hb:b<R+2)=>FB.out.cell (p:=⟨b,o,none⟩) hb)
   clear hkF hbF
   refine rdz (i:=16) (h:=fun K hK=>?_)
   go_simp
   refine hK.out _ _ ?_ (fun hHeld2=>?_)
   · (try dsimp only)
     exact hcells.out
   clear hK K hHeld hHeld2
   try simp only [Act.put,lt,ly,lu]
   refine wpAnyH_done (by kernel_rfl) ?_ _
   go_wp2_with fail
   refine bP (v:=.agg #[.bool sb,.slice B3 m1 e3,.slice B4 m2 e4]) ?_ rfl ⟨_,rfl,FIN.out,hRF.out _ FB.out⟩
   simp [results,Tryz.results89,go_sem,r0,r1,r2]
theorem Fg {w:World} {vx vy:Value} {p q r:Rat} (h0:q≠0) (hr:p / q=r) (hx:Ah w vx p) (hy:Ah w vy q) (s1:len p.num.natAbs≤1073741824) (s2:len p.den≤1073741824) (s3:len q.num.natAbs≤1073741824) (s4:len q.den≤1073741824):Calls Tryz.prog 85 #[vx,vy] w (A2' w r):=by
 obtain ⟨A1,c1,A2,c2,rfl,h1,h2⟩:=hx.opened
 obtain ⟨A3,c3,A4,c4,rfl,h3,h4⟩:=hy.opened
 have hrat:=IC (p:=p) h0
 rw [hr] at hrat
 have hpos:0<p.den*q.num.natAbs:=Nat.mul_pos p.den_pos (by have:q.num≠0:=fun e=>h0 (Rat.num_eq_zero.1 e);omega)
 obtain ⟨b,hb⟩:=eY (decide (p.num<0))
 obtain ⟨d,hd⟩:=eY (decide (q.num<0))
 obtain ⟨N,hN⟩:=eY p.num.natAbs
 obtain ⟨D,hD⟩:=eY p.den
 obtain ⟨M,hM⟩:=eY q.num.natAbs
 obtain ⟨E,hE⟩:=eY q.den
 rw [hb,hd,hN,hD,hM,hE] at hrat
 rw [hN] at h1 s1
 rw [hD] at h2 s2
 rw [hM] at h3 s3
 rw [hE] at h4 s4
 rw [hD,hM] at hpos
 rw [hb,hd,hN,hD,hM,hE]
 obtain ⟨n1,hn1⟩:=eY (len N)
 obtain ⟨n2,hn2⟩:=eY (len D)
 obtain ⟨n3,hn3⟩:=eY (len M)
 obtain ⟨n4,hn4⟩:=eY (len E)
 have t1:=At' N E
 have t2:=At' D M
 have HT1:=fun (u:World) (hu:Below w.heap.size w u)=>Bo (w:=u) (h1.keep hu) (h4.keep hu) (by omega) (by omega)
 have HT2:=fun (u:World) (hu:Below w.heap.size w u)=>Bo (w:=u) (h2.keep hu) (h3.keep hu) (by omega) (by omega)
 have u1':len (N*E)≤68719476736:=by omega
 have u2':len (D*M)≤68719476736:=by omega
 obtain ⟨X,hX⟩:=eY (N*E)
 obtain ⟨Y,hY⟩:=eY (D*M)
 rw [hX] at HT1 hrat u1'
 rw [hY] at HT2 hrat u2' hpos
 rw [hn1,hn2,hn3,hn4]
 rw [hn1,hn4] at HT1;rw [hn2,hn3] at HT2
 replace HT1:=hid HT1
 replace HT2:=hid HT2
 replace hrat:=hid hrat
 replace u1':=hid u1'
 replace u2':=hid u2'
 replace hpos:=hid hpos
 clear hb hd hN hD hM hE hn1 hn2 hn3 hn4 t1 t2 hX hY h1 h2 h3 h4 s1 s2 s3 s4 hr hx hy h0
 obtain ⟨wB,hwB⟩:=eX (((w.alloc (.cells #[.bool b,.slice A1 n1 c1,.slice A2 n2 c2] 43)).alloc (.cells #[.bool d,.slice A3 n3 c3,.slice A4 n4 c4] 43)).alloc (.cells #[.bool false,.slice none 0 0,.slice none 0 0] 43))
 obtain ⟨R,hR⟩:=eY w.heap.size
 obtain ⟨wA,b0,hsA,bA,hRB,k0,k1,k2,j0,j1,j2⟩:=CY' hR _ hwB
 have hS:=hid (fun (u:World) (hu:RB wA (R+2) u) (b o:Nat) (hb:b<R+2)=>hu.1.cell (p:=⟨b,o,none⟩) hb)
 have hRA:=hid (fun (u:World) (hu:RB wA (R+2) u)=>Ae' b0 (show Below wA.heap.size wA u by rw [hsA];exact hu.1))
 obtain ⟨u0,hu0⟩:=eX wB.drew
 have hB0:=hid (show RB wA (R+2) u0 by rw [hu0];exact hRB.call (AV wB))
 have HA:=hid (HT1.out u0 (hRA.out u0 hB0.out))
 have hRF:=hid (fun (u:World) (hu:Below (R+2) wA u)=>Ae' b0 (show Below wA.heap.size wA u by rw [hsA];exact hu))
 clear hRB bA HT1 hsA b0
 obtain ⟨mb,hmb⟩:=eY ((b != d))
 rw [hmb] at hrat
 have hmb2:=hid hmb
 clear hmb
 have hgo:True:=trivial
 · go_enter Tryz.func85,Tryz.ntmps85
   go_upto_region 1 with fail
   rw [←hwB]
   replace hR:=hid hR
   clear hwB
   refine wp_region_held_drew (S:=(fun w'=>(∀ b o,b<R+2→w'.cell? ⟨b,o,none⟩=wA.cell? ⟨b,o,none⟩))) (by kernel_rfl) ?_ (fun hHeld=>?_)
   · (try dsimp only)
     rw [←hu0]
     exact hS.out _ hB0.out
   rw [←hu0] at hHeld ⊢
   clear hu0
   refine tk (i:=0) (h:=?_)
   try simp only [Act.put,lt,ly,lu]
   refine tk (i:=1) (h:=?_)
   try simp only [Act.put,lt,ly,lu]
   refine tk (i:=2) (h:=?_)
   try simp only [Act.put,lt,ly,lu]
   refine tk (i:=3) (h:=?_)
   try simp only [Act.put,lt,ly,lu]
   refine tk (i:=4) (v:=.bool mb) (hy:=?_) (h:=?_)
   · refine Or.inl ⟨by rfl,?_⟩
     intro w hSw
     rw [←hmb2.out]
     cases b <;> cases d <;> (go_simp;try with_reducible rfl)
   try simp only [Act.put,lt,ly,lu]
   refine tk (i:=5) (h:=?_)
   try simp only [Act.put,lt,ly,lu]
   refine tk (i:=6) (h:=?_)
   try simp only [Act.put,lt,ly,lu]
   refine tk (i:=7) (h:=?_)
   try simp only [Act.put,lt,ly,lu]
   refine tk (i:=8) (h:=?_)
   try simp only [Act.put,lt,ly,lu]
   refine tk (i:=10) (h:=?_)
   try simp only [Act.put,lt,ly,lu]
   refine tk (i:=11) (h:=?_)
   try simp only [Act.put,lt,ly,lu]
   refine tk (i:=12) (h:=?_)
   try simp only [Act.put,lt,ly,lu]
   refine tk (i:=13) (h:=?_)
   try simp only [Act.put,lt,ly,lu]
   refine rdz (i:=9) (h:=fun K hK=>?_)
   go_simp;go_at_call 43
   refine (HA.out).mono ?_
   rintro e w1 ⟨v1,rfl,hv1,b1⟩
   obtain ⟨B1,e1,rfl,-,-,-,-⟩:=id hv1
   replace hv1:=hid hv1

   have hB1:=hid (hB0.out.call b1)
   clear HA b1
   refine hK.out _ _ ?_ (fun hHeld2=>?_)
   · (try dsimp only)
     exact hS.out _ hB1.out
   clear hK K hHeld
   try simp only [Act.put,lt,ly,lu]
   have hHeld:=hHeld2
   clear hHeld2
   have HB:=hid (HT2.out w1 (hRA.out w1 hB1.out))
   clear HT2
   refine rdz (i:=14) (h:=fun K hK=>?_)
   go_simp;go_at_call 43
   refine (HB.out).mono ?_
   rintro e w2 ⟨v2,rfl,hv2,b2⟩
   obtain ⟨B2,e2,rfl,-,-,-,-⟩:=id hv2
   replace hv2:=hid hv2

   have hB2:=hid (hB1.out.call b2)
   have hv1b:=hid (hv1.out.keep b2)
   clear HB b2 hv1
   refine hK.out _ _ ?_ (fun hHeld2=>?_)
   · (try dsimp only)
     exact hS.out _ hB2.out
   clear hK K hHeld
   try simp only [Act.put,lt,ly,lu]
   have hHeld:=hHeld2
   clear hHeld2
   have HM:=hid (CA' hrat.out hv1b.out hv2.out hpos.out u1'.out u2'.out)
   refine rdz (i:=15) (h:=fun K hK=>?_)
   go_simp;go_at_call 125
   refine (HM.out).mono ?_
   rintro e w3 ⟨v3,rfl,hv3,b3⟩
   obtain ⟨B3,e3,B4,e4,rfl,g1,g2⟩:=hv3.opened
   replace g1:=hid g1
   replace g2:=hid g2

   have hB3:=hid (hB2.out.call b3)
   clear HM b3 hv3 hv1b hv2
   refine hK.out _ _ ?_ (fun hHeld2=>?_)
   · (try dsimp only)
     exact hS.out _ hB3.out
   clear hK K hHeld
   try simp only [Act.put,lt,ly,lu]
   have hHeld:=hHeld2
   clear hHeld2
   obtain ⟨sb,hsb⟩:=eY (decide (r.num<0))
   obtain ⟨m1,hm1⟩:=eY (len r.num.natAbs)
   obtain ⟨m2,hm2⟩:=eY (len r.den)
   rw [hm1] at g1 ⊢
   rw [hm2] at g2 ⊢
   rw [hsb]
   obtain ⟨hbF,⟨r0,r1,r2⟩,hkF⟩:=(hB3.out).store (b:=sb) (A:=B3) (n:=m1) (c:=e3) (A':=B4) (n':=m2) (c':=e4) _ rfl
   obtain ⟨x0,x1,x2,⟨l0,l1,l2⟩,f0,f1,f2⟩:=(hB3.out).cells
   have FIN:=hid (show Ah _ (.agg #[.bool sb,.slice B3 m1 e3,.slice B4 m2 e4]) r from ⟨_,_,by rw [hsb],hkF _ _ g1.out,hkF _ _ g2.out⟩)
   have FB:=hid hbF
   replace hsb:=hid hsb
   replace hm1:=hid hm1
   replace hm2:=hid hm2
   have hcells:=hid (fun (b o:Nat) (hb:b<R+2)=>FB.out.cell (p:=⟨b,o,none⟩) hb)
   clear hkF hbF
   refine rdz (i:=16) (h:=fun K hK=>?_)
   go_simp
   refine hK.out _ _ ?_ (fun hHeld2=>?_)
   · (try dsimp only)
     exact hcells.out
   clear hK K hHeld hHeld2
   try simp only [Act.put,lt,ly,lu]
   refine wpAnyH_done (by kernel_rfl) ?_ _
   go_wp2_with fail
   refine bP (v:=.agg #[.bool sb,.slice B3 m1 e3,.slice B4 m2 e4]) ?_ rfl ⟨_,rfl,FIN.out,hRF.out _ FB.out⟩
   simp [results,Tryz.results85,go_sem,r0,r1,r2]
theorem IC' {w:World} {m:Nat} {n:Int} {q:Rat} (hn:n = -((m:Nat):Int)) (hq : -((m:Nat):Rat)=q) (h0:0<m) (hm:m≤9223372036854775808) :
   Calls Tryz.prog 13 #[.int .i64 n] w (A2' w q):=by
 obtain ⟨p1,p2,p3⟩:=EA' (q:=q) (b:=true) (m:=m) (by rw [FP'];exact hq)
 rw [Bool.true_and,dT_ h0] at p3
 obtain ⟨wB,hwB⟩:=eX (w.alloc (.cells #[.bool false,.slice none 0 0,.slice none 0 0] 43))
 have hRB:=RB.start w
 rw [←hwB] at hRB
 obtain ⟨R,hR⟩:=eY w.heap.size
 rw [hR] at hRB
 have v1:decide (n<0)=true:=dT_ (by omega)
 have v2:n<0:=by omega
 obtain ⟨t,ht⟩:=eY (n+1:Int)
 obtain ⟨k,hk⟩:∃ k:Nat,m=k+1:=⟨m - 1,by omega⟩
 have w1:IntKind.i64.wrap (n+1)=t:=by rw [IntKind.wrap_i64];omega
 have w2:IntKind.i64.wrap (-t)=((k:Nat):Int):=by rw [IntKind.wrap_i64];omega
 have w3:IntKind.u64.wrap ((k:Nat):Int)=((k:Nat):Int):=by rw [IntKind.wrap_u64];omega
 have w4:IntKind.u64.wrap (((k:Nat):Int)+1)=((m:Nat):Int):=by rw [IntKind.wrap_u64];omega
 have HO:=hid (G3' (w:=wB) (n:=m) (by omega))
 replace hRB:=hid hRB
 replace p1:=hid p1
 replace p2:=hid p2
 replace p3:=hid p3
 clear hq hm h0 ht hk hn
 go_enter Tryz.func13,Tryz.ntmps13
 go_upto_region 1 with fail
 rw [←hwB]
 replace hR:=hid hR
 clear hwB
 go_wp2_with fail
 refine (HO.out).mono ?_
 rintro e w1 ⟨v,rfl,hv,b1⟩
 obtain ⟨A,c,rfl,-,-,-,-⟩:=id hv
 have hone:=hid (Ed' w1)
 have b2:=Am' w1 (.cells #[.int .i64 1] 3)
 have hRB2:=hid ((hRB.out.call b1).call b2)
 have hv2:=hid (hv.keep b2)
 clear hv b1 b2 hRB HO
 obtain ⟨hbF,⟨r0,r1,r2⟩,hkF⟩:=(hRB2.out).store (b:=true) (A:=A) (n:=len m) (c:=c) (A':=some ⟨w1.heap.size,0,none⟩) (n':=1) (c':=1) _ rfl
 obtain ⟨u0,u1,u2,⟨k0,k1,k2⟩,f0,f1,f2⟩:=(hRB2.out).cells
 have F:=hid (show Ah _ (.agg #[.bool true,.slice A (len m) c,.slice (some ⟨w1.heap.size,0,none⟩) 1 1]) q from ⟨_,_,by rw [p3.out],by rw [p1.out];exact hkF _ _ hv2.out,by rw [p2.out];exact hkF _ _ hone.out⟩)
 have FB:=hid hbF
 clear hbF hkF
 go_wp2_with fail
 refine bP (v:=.agg #[.bool true,.slice A (len m) c,.slice (some ⟨w1.heap.size,0,none⟩) 1 1]) ?_ rfl ⟨_,rfl,F.out,by rw [hR.out];exact FB.out⟩
 simp [results,Tryz.results13,go_sem,r0,r1,r2]
theorem BQ {w:World} {n:Int} {q:Rat} (hq:(n:Rat)=q) (h1 : -9223372036854775808≤n) (h2:n≤9223372036854775807):Calls Tryz.prog 13 #[.int .i64 n] w (A2' w q):=by
 rcases (show n<0∨0≤n by omega) with h | h
 · obtain ⟨m,hm⟩:∃ m:Nat,n = -((m:Nat):Int):=⟨n.natAbs,by omega⟩
   refine IC' hm ?_ (by omega) (by omega)
   rw [←hq,hm,Rat.intCast_neg];rfl
 · obtain ⟨m,rfl⟩:∃ m:Nat,n=((m:Nat):Int):=⟨n.natAbs,by omega⟩
   exact IB (by rw [←hq];rfl) (by omega)
theorem EB {n:Int} {q:Rat} (hq:(n:Rat)=q) (h1 : -9223372036854775808≤n) (h2:n≤9223372036854775807):len q.num.natAbs≤4∧len q.den≤4:=by
 rw [←hq,Rat.num_intCast,Rat.den_intCast]
 exact ⟨AA (show _<18446744073709551616 by omega),AA (show 1<18446744073709551616 by omega)⟩
theorem G4' {w:World} {a b:Int} {q:Rat} (hq:(a:Rat) / (b:Rat)=q) (hb:b≠0) (h1 : -9223372036854775808≤a) (h2:a≤9223372036854775807) (h3 : -9223372036854775808≤b) (h4:b≤9223372036854775807) :
   Calls Tryz.prog 44 #[.int .i64 a,.int .i64 b] w (A2' w q):=by
 obtain ⟨x,hx⟩:=eY ((a:Rat):Rat)
 obtain ⟨y,hy⟩:=eY ((b:Rat):Rat)
 have hy0:y≠0:=by
   rw [←hy]
   intro e
   exact hb (Rat.intCast_inj.1 (e.trans Rat.intCast_zero.symm))
 rw [hx,hy] at hq
 obtain ⟨s1,s2⟩:=EB hx h1 h2
 obtain ⟨s3,s4⟩:=EB hy h3 h4
 obtain ⟨wB,hwB⟩:=eX (w.alloc (.cells #[.bool false,.slice none 0 0,.slice none 0 0] 43))
 have hRB:=RB.start w
 rw [←hwB] at hRB
 obtain ⟨R,hR⟩:=eY w.heap.size
 rw [hR] at hRB
 have HI:=hid (fun u:World=>BQ (w:=u) hx h1 h2)
 have HJ:=hid (fun u:World=>BQ (w:=u) hy h3 h4)
 have HD:=hid (fun (u:World) (v1 v2:Value) (i1:Ah u v1 x) (i2:Ah u v2 y)=>Fg hy0 hq i1 i2 (nT s1 (by decide)) (nT s2 (by decide)) (nT s3 (by decide)) (nT s4 (by decide)))
 replace hRB:=hid hRB
 clear hx hy hy0 hq s1 s2 s3 s4 hb h1 h2 h3 h4
 go_enter Tryz.func44,Tryz.ntmps44
 go_upto_region 1 with fail
 rw [←hwB]
 replace hR:=hid hR
 clear hwB
 go_wp2_with fail
 refine (HI.out _).mono ?_
 rintro e w1 ⟨v1,rfl,hv1,b1⟩
 obtain ⟨A1,c1,A2,c2,rfl,-,-⟩:=id hv1.opened
 replace hv1:=hid hv1
 replace b1:=hid b1
 clear HI
 go_wp2_with fail
 refine (HJ.out _).mono ?_
 rintro e w2 ⟨v2,rfl,hv2,b2⟩
 obtain ⟨A3,c3,A4,c4,rfl,-,-⟩:=id hv2.opened
 replace hv2:=hid hv2
 replace b2:=hid b2
 clear HJ
 have HE:=hid (HD.out _ _ _ (hv1.out.keep b2.out) hv2.out)
 clear HD
 go_wp2_with fail
 refine (HE.out).mono ?_
 rintro e w3 ⟨v3,rfl,hv3,b3⟩
 obtain ⟨B3,e3,B4,e4,rfl,g1,g2⟩:=hv3.opened
 replace g1:=hid g1
 replace g2:=hid g2
 have hB3:=hid (((hRB.out.call b1.out).call b2.out).call b3)
 clear HE hv1 hv2 hv3 b1 b2 b3
 obtain ⟨sb,hsb⟩:=eY (decide (q.num<0))
 obtain ⟨m1,hm1⟩:=eY (len q.num.natAbs)
 obtain ⟨m2,hm2⟩:=eY (len q.den)
 rw [hm1] at g1 ⊢
 rw [hm2] at g2 ⊢
 rw [hsb]
 obtain ⟨hbF,⟨r0,r1,r2⟩,hkF⟩:=(hB3.out).store (b:=sb) (A:=B3) (n:=m1) (c:=e3) (A':=B4) (n':=m2) (c':=e4) _ rfl
 obtain ⟨x0,x1,x2,⟨l0,l1,l2⟩,f0,f1,f2⟩:=(hB3.out).cells
 have FIN:=hid (show Ah _ (.agg #[.bool sb,.slice B3 m1 e3,.slice B4 m2 e4]) q from ⟨_,_,by rw [hsb],hkF _ _ g1.out,hkF _ _ g2.out⟩)
 have FB:=hid hbF
 replace hsb:=hid hsb
 replace hm1:=hid hm1
 replace hm2:=hid hm2
 clear hkF hbF
 go_wp2_with fail
 refine bP (v:=.agg #[.bool sb,.slice B3 m1 e3,.slice B4 m2 e4]) ?_ rfl ⟨_,rfl,FIN.out,by rw [hR.out];exact FB.out⟩
 simp [results,Tryz.results44,go_sem,r0,r1,r2]
theorem box2 {w:World} {b d:Bool} {A A' B B':Option Addr} {n c n' c' m e m' e' R:Nat} (hR:w.heap.size=R):∀ u,u=(w.alloc (.cells #[.bool b,.slice A n c,.slice A' n' c'] 43)).alloc (.cells #[.bool d,.slice B m e,.slice B' m' e'] 43) →
   Below w.heap.size w u∧u.heap.size=R+2∧u.cell? ⟨R,0,none⟩=some (.bool b)∧u.cell? ⟨R,1,none⟩=some (.slice A n c)∧u.cell? ⟨R,2,none⟩=some (.slice A' n' c') ∧
     u.cell? ⟨R+1,0,none⟩=some (.bool d)∧u.cell? ⟨R+1,1,none⟩=some (.slice B m e)∧u.cell? ⟨R+1,2,none⟩=some (.slice B' m' e'):=by
 intro u hu
 obtain ⟨w1,hw1⟩:=eX (w.alloc (.cells #[.bool b,.slice A n c,.slice A' n' c'] 43))
 rw [←hw1] at hu
 obtain ⟨b0,k0,k1,k2⟩:=Ee _ hw1
 have hs1:w1.heap.size=R+1:=by rw [hw1,World.size_alloc,hR]
 obtain ⟨b1,j0,j1,j2⟩:=Ee _ hu
 have hs:u.heap.size=R+2:=by rw [hu,World.size_alloc,hs1]
 rw [hR] at k0 k1 k2
 rw [hs1] at j0 j1 j2
 have hl:R<w1.heap.size:=by omega
 exact ⟨Ae' b0 b1,hs,(b1.cell (p:=⟨R,0,none⟩) hl).trans k0,(b1.cell (p:=⟨R,1,none⟩) hl).trans k1,(b1.cell (p:=⟨R,2,none⟩) hl).trans k2,j0,j1,j2⟩
theorem IU' {p q:Rat} (h:p.num<0) (k:¬ q.num<0):cmpQ p q = -1:=by
 have h1:p.num*(q.den:Int)<0:=Int.mul_neg_of_neg_of_pos h (by have:=q.den_pos;omega)
 have h2:0≤q.num*(p.den:Int):=Int.mul_nonneg (by omega) (by omega)
 rw [Cc];unfold A0';rw [if_pos (by omega)]
theorem IV {p q:Rat} (h:¬ p.num<0) (k:q.num<0):cmpQ p q=1:=by
 have h1:q.num*(p.den:Int)<0:=Int.mul_neg_of_neg_of_pos k (by have:=p.den_pos;omega)
 have h2:0≤p.num*(q.den:Int):=Int.mul_nonneg (by omega) (by omega)
 rw [Cc];unfold A0';rw [if_neg (by omega),if_neg (by omega)]
theorem HV' {p q:Rat} (h:decide (p.num<0)=decide (q.num<0)):cmpQ p q=if decide (p.num<0)=true then -Ar (p.num.natAbs*q.den) (q.num.natAbs*p.den) else Ar (p.num.natAbs*q.den) (q.num.natAbs*p.den):=by
 rw [Cc]
 by_cases k:p.num<0
 · have k2:q.num<0:=by rw [dT_ k] at h;exact of_decide_eq_true h.symm
   rw [if_pos (dT_ k)]
   have e1:p.num*(q.den:Int) = -((p.num.natAbs*q.den:Nat):Int):=by
     rw [Int.natCast_mul,←Int.neg_mul];congr 1;omega
   have e2:q.num*(p.den:Int) = -((q.num.natAbs*p.den:Nat):Int):=by
     rw [Int.natCast_mul,←Int.neg_mul];congr 1;omega
   rw [e1,e2]
   generalize p.num.natAbs*q.den=x
   generalize q.num.natAbs*p.den=y
   rcases Nat.lt_trichotomy x y with l | l | l
   · rw [BD' l];unfold A0';rw [if_neg (by omega),if_neg (by omega)];rfl
   · subst l;rw [Ce'];unfold A0';rw [if_neg (by omega),if_pos rfl];rfl
   · rw [Ce l];unfold A0';rw [if_pos (by omega)]
 · have k2:¬ q.num<0:=by rw [dF_ k] at h;exact of_decide_eq_false h.symm
   rw [if_neg (by rw [dF_ k];decide)]
   have e1:p.num*(q.den:Int)=((p.num.natAbs*q.den:Nat):Int):=by
     rw [Int.natCast_mul];congr 1;omega
   have e2:q.num*(p.den:Int)=((q.num.natAbs*p.den:Nat):Int):=by
     rw [Int.natCast_mul];congr 1;omega
   rw [e1,e2]
   generalize p.num.natAbs*q.den=x
   generalize q.num.natAbs*p.den=y
   rcases Nat.lt_trichotomy x y with l | l | l
   · rw [BD' l];unfold A0';rw [if_pos (by omega)]
   · subst l;rw [Ce'];unfold A0';rw [if_neg (by omega),if_pos rfl]
   · rw [Ce l];unfold A0';rw [if_neg (by omega),if_neg (by omega)]
theorem HW' {w:World} {vx vy:Value} {p q:Rat} {r:Int} (hr:cmpQ p q=r) (hx:Ah w vx p) (hy:Ah w vy q) (s1:len p.num.natAbs≤1073741824) (s2:len p.den≤1073741824) (s3:len q.num.natAbs≤1073741824) (s4:len q.den≤1073741824):Calls Tryz.prog 11 #[vx,vy] w (Gk w r):=by
 obtain ⟨A1,c1,A2,c2,rfl,h1,h2⟩:=hx.opened
 obtain ⟨A3,c3,A4,c4,rfl,h3,h4⟩:=hy.opened
 have f1:=@IU' p q
 have f2:=@IV p q
 have f3:=@HV' p q
 rw [hr] at f1 f2 f3
 have f1':decide (p.num<0)=true→decide (q.num<0)=false→r = -1:=fun a b=>f1 (of_decide_eq_true a) (of_decide_eq_false b)
 have f2':decide (p.num<0)=false→decide (q.num<0)=true→r=1:=fun a b=>f2 (of_decide_eq_false a) (of_decide_eq_true b)
 clear f1 f2
 obtain ⟨b,hb⟩:=eY (decide (p.num<0))
 obtain ⟨d,hd⟩:=eY (decide (q.num<0))
 obtain ⟨N,hN⟩:=eY p.num.natAbs
 obtain ⟨D,hD⟩:=eY p.den
 obtain ⟨M,hM⟩:=eY q.num.natAbs
 obtain ⟨E,hE⟩:=eY q.den
 rw [hb,hd] at f1' f2' f3
 rw [hN,hD,hM,hE] at f3
 rw [hN] at h1 s1
 rw [hD] at h2 s2
 rw [hM] at h3 s3
 rw [hE] at h4 s4
 rw [hb,hd,hN,hD,hM,hE]
 obtain ⟨n1,hn1⟩:=eY (len N)
 obtain ⟨n2,hn2⟩:=eY (len D)
 obtain ⟨n3,hn3⟩:=eY (len M)
 obtain ⟨n4,hn4⟩:=eY (len E)
 have t1:=At' N E
 have t2:=At' M D
 have HT1:=fun (u:World) (hu:Below w.heap.size w u)=>Bo (w:=u) (h1.keep hu) (h4.keep hu) (by omega) (by omega)
 have HT2:=fun (u:World) (hu:Below w.heap.size w u)=>Bo (w:=u) (h3.keep hu) (h2.keep hu) (by omega) (by omega)
 have u1':len (N*E)≤1099511627776:=by omega
 have u2':len (M*D)≤1099511627776:=by omega
 obtain ⟨X,hX⟩:=eY (N*E)
 obtain ⟨Y,hY⟩:=eY (M*D)
 rw [hX] at HT1 u1' f3
 rw [hY] at HT2 u2' f3
 rw [hn1,hn2,hn3,hn4]
 rw [hn1,hn4] at HT1
 rw [hn3,hn2] at HT2
 replace HT1:=hid HT1
 replace HT2:=hid HT2
 replace u1':=hid u1'
 replace u2':=hid u2'
 replace f1':=hid f1'
 replace f2':=hid f2'
 replace f3:=hid f3
 clear hb hd hN hD hM hE hn1 hn2 hn3 hn4 t1 t2 hX hY h1 h2 h3 h4 s1 s2 s3 s4 hr hx hy
 obtain ⟨wB,hwB⟩:=eX ((w.alloc (.cells #[.bool b,.slice A1 n1 c1,.slice A2 n2 c2] 43)).alloc (.cells #[.bool d,.slice A3 n3 c3,.slice A4 n4 c4] 43))
 obtain ⟨R,hR⟩:=eY w.heap.size
 obtain ⟨b0,hsB,k0,k1,k2,j0,j1,j2⟩:=box2 hR _ hwB
 replace b0:=hid b0
 have hcases:(b=true∧d=false)∨(b=false∧d=true)∨d=b:=by cases b <;> cases d <;> simp
 rcases hcases with ⟨rfl,rfl⟩ | ⟨rfl,rfl⟩ | rfl
 · obtain rfl:=f1'.out rfl rfl
   go_enter Tryz.func11,Tryz.ntmps11
   go_upto_region 1 with fail
   rw [←hwB]
   clear hwB hR hsB
   go_wp2_with fail
   go_ret
   exact ⟨rfl,b0.out⟩
 · obtain rfl:=f2'.out rfl rfl
   go_enter Tryz.func11,Tryz.ntmps11
   go_upto_region 1 with fail
   rw [←hwB]
   clear hwB hR hsB
   go_wp2_with fail
   go_ret
   exact ⟨rfl,b0.out⟩
 · have f4:=hid (f3.out rfl)
   have hS:=hid (fun (u:World) (hu:Below wB.heap.size wB u) (b o:Nat) (hb:b<R+2)=>hu.cell (p:=⟨b,o,none⟩) (by rw [hsB];exact hb))
   obtain ⟨u0,hu0⟩:=eX wB.drew
   have hB0:=hid (show Below wB.heap.size wB u0 by rw [hu0];exact AV wB)
   have HA:=hid (HT1.out u0 (Ae' b0.out hB0.out))
   replace hsB:=hid hsB
   clear f1' f2' f3 HT1
   go_enter Tryz.func11,Tryz.ntmps11
   go_upto_region 1 with fail
   rw [←hwB]
   replace hR:=hid hR
   clear hwB
   go_wp2_with fail
   refine wp_region_held_drew (S:=(fun w'=>(∀ b o,b<R+2→w'.cell? ⟨b,o,none⟩=wB.cell? ⟨b,o,none⟩))) (by kernel_rfl) ?_ (fun hHeld=>?_)
   · (try dsimp only)
     rw [←hu0]
     exact hS.out _ hB0.out
   rw [←hu0] at hHeld ⊢
   clear hu0
   refine tk (i:=0) (h:=?_)
   try simp only [Act.put,lt,ly,lu]
   refine tk (i:=1) (h:=?_)
   try simp only [Act.put,lt,ly,lu]
   refine tk (i:=2) (h:=?_)
   try simp only [Act.put,lt,ly,lu]
   refine tk (i:=3) (h:=?_)
   try simp only [Act.put,lt,ly,lu]
   refine tk (i:=5) (h:=?_)
   try simp only [Act.put,lt,ly,lu]
   refine tk (i:=6) (h:=?_)
   try simp only [Act.put,lt,ly,lu]
   refine tk (i:=7) (h:=?_)
   try simp only [Act.put,lt,ly,lu]
   refine tk (i:=8) (h:=?_)
   try simp only [Act.put,lt,ly,lu]
   refine rdz (i:=4) (h:=fun K hK=>?_)
   go_simp;go_at_call 43
   refine (HA.out).mono ?_
   rintro e w1 ⟨v1,rfl,hv1,b1⟩
   obtain ⟨B1,e1,rfl,-,-,-,-⟩:=id hv1
   replace hv1:=hid hv1

   have hB1:=hid (Ae' hB0.out b1)
   clear HA b1
   refine hK.out _ _ ?_ (fun hHeld2=>?_)
   · (try dsimp only)
     exact hS.out _ hB1.out
   clear hK K hHeld
   try simp only [Act.put,lt,ly,lu]
   have hHeld:=hHeld2
   clear hHeld2
   have HB:=hid (HT2.out w1 (Ae' b0.out hB1.out))
   clear HT2
   refine rdz (i:=9) (h:=fun K hK=>?_)
   go_simp;go_at_call 43
   refine (HB.out).mono ?_
   rintro e w2 ⟨v2,rfl,hv2,b2⟩
   obtain ⟨B2,e2,rfl,-,-,-,-⟩:=id hv2
   replace hv2:=hid hv2

   have hB2:=hid (Ae' hB1.out b2)
   have hv1b:=hid (hv1.out.keep b2)
   clear HB b2 hv1
   refine hK.out _ _ ?_ (fun hHeld2=>?_)
   · (try dsimp only)
     exact hS.out _ hB2.out
   clear hK K hHeld
   try simp only [Act.put,lt,ly,lu]
   have hHeld:=hHeld2
   clear hHeld2
   have HM:=hid (BE hv1b.out hv2.out u1'.out u2'.out)
   refine rdz (i:=10) (h:=fun K hK=>?_)
   go_simp;go_at_call 42
   refine (HM.out).mono ?_
   rintro e w3 ⟨rfl,rfl⟩

   clear HM
   refine hK.out _ _ ?_ (fun hHeld2=>?_)
   · (try dsimp only)
     exact hS.out _ hB2.out
   clear hK K hHeld
   try simp only [Act.put,lt,ly,lu]
   have hHeld:=hHeld2
   clear hHeld2
   refine tk (i:=11) (h:=?_)
   try simp only [Act.put,lt,ly,lu]
   refine wpAnyH_done (by kernel_rfl) ?_ _
   have kk0:w2.cell? ⟨R,0,none⟩=some (.bool d):=(hS.out _ hB2.out R 0 (by omega)).trans k0
   have hcb : -1≤Ar X Y∧Ar X Y≤1:=by
     unfold Ar
     split
     · omega
     · split <;> omega
   obtain ⟨cc,hcc⟩:=eY (Ar X Y)
   rw [hcc] at f4 hcb ⊢
   obtain ⟨hc1,hc2⟩:=hcb
   have hw:IntKind.i64.wrap (-cc) = -cc:=by rw [IntKind.wrap_i64];omega
   clear hHeld hS k0 k1 k2 j0 j1 j2 hcc
   rcases d with _ | _
   · have e9:=f4.out
     rw [if_neg (by decide)] at e9
     subst e9
     go_wp2_with fail
     go_ret
     exact ⟨rfl,Ae' b0.out hB2.out⟩
   · have e9:=f4.out
     rw [if_pos rfl] at e9
     subst e9
     go_wp2_with fail
     go_ret
     exact ⟨rfl,Ae' b0.out hB2.out⟩
end Go.Proofs.YtflopjfnppolgaaGreatDoor.Rf
