/-
  Contracts of the functions that the law calls, for every input (Qj Rka Rkb).
-/
import Derived.Test.YtflopjfnppolgaaGreatDoorZ00
import Derived.Test.YtflopjfnppolgaaGreatDoorZ36
import Derived.Test.YtflopjfnppolgaaGreatDoorZ37
import Derived.Test.YtflopjfnppolgaaGreatDoorZ43
import Derived.Test.YtflopjfnppolgaaGreatDoorZ19
set_option linter.all false
set_option maxRecDepth 100000
set_option maxHeartbeats 40000000
namespace Go.Proofs.YtflopjfnppolgaaGreatDoor.Rf
open Lib (hid)
open Go.RowKit
open Rx
open Vx (Aa' Ai Ai')
open List renaming getElem?_toArray → lg, getElem?_cons_zero → lz, getElem?_cons_succ → ls, setIfInBounds_toArray → lt, set_cons_zero → ly, set_cons_succ → lu
def AP (s a:Rat) (k:Nat):Rat:=s*(1 - a)^k
theorem DZ' (s a:Rat) (k:Nat):AP s a k*(1 - a)=AP s a (k+1):=by unfold AP;rw [Rat.pow_succ,Rat.mul_assoc]
theorem Hh' (s a:Rat) (k:Nat):Aa' (AP s a k)≤Aa' s+(Aa' a+4)*k+1:=by
 induction k with
 | zero=>unfold AP;rw [Rat.pow_zero,Rat.mul_one];omega
 | succ k ih =>
   rw [←DZ']
   have h1:=Vx.B0' (AP s a k) (1 - a)
   have h2:=Vx.AC' 1 a
   have h3:Aa' 1≤3:=by decide
   rw [Nat.mul_succ]
   omega
def Gx (w:World) (s a t:Rat) (e:Ending) (w':World):Prop :=
  ((∃ k:Nat,k≤300∧e=.returned (.tuple #[.int .i64 ((k:Nat):Int),.int .i64 0])∧AP s a k≤t∧∀ j,j<k→t<AP s a j)∨(e=.returned (.tuple #[.int .i64 0,.int .i64 40])∧∀ j,j≤300→t<AP s a j))∧Below w.heap.size w w'
def Se (w:World) (op ot:Obj) (s a t:Rat) (B k:Nat) (wr:World):Prop :=
  wr.heap[w.heap.size]?=some op∧wr.heap[w.heap.size+2]?=some ot∧(∃ A1 c1 B1 d1,wr.heap[B]?=some (.cells #[.bool (decide ((AP s a k).num<0)),.slice A1 (Vx.len (AP s a k).num.natAbs) c1,.slice B1 (Vx.len (below (AP s a k).den)) d1] 35 (0,0))∧Ac' wr (.agg #[.bool (decide ((AP s a k).num<0)),.slice A1 (Vx.len (AP s a k).num.natAbs) c1,.slice B1 (Vx.len (below (AP s a k).den)) d1]) (AP s a k))∧(∀ j,j<k→t<AP s a j)∧Below w.heap.size w wr
theorem Fn' {w:World} {v vs vt:Value} {a b r s t:Rat} (hp:AA' w v a b r) (hs:Ac' w vs s) (ht:Ac' w vt t) (hg:Ar' a b r) (h0:0≤s) (h1:0≤t) (sa:Aa' a≤100000) (sb:Aa' b≤100000) (ss:Aa' s≤1000000) (st:Aa' t≤1000000) :
   Calls Tryz.prog 28 #[v,vs,vt] w (Gx w s a t):=by
 have d1:decide (s.num.sign<0)=false:=dF_ (Int.not_lt.2 (Int.sign_nonneg_iff.2 (Rat.num_nonneg.2 h0)))
 have d2:decide (t.num.sign<0)=false:=dF_ (Int.not_lt.2 (Int.sign_nonneg_iff.2 (Rat.num_nonneg.2 h1)))
 obtain ⟨c1,ec1⟩:=eY (s.num.sign:Int)
 obtain ⟨c2,ec2⟩:=eY (t.num.sign:Int)
 rw [ec1] at d1
 rw [ec2] at d2
 have ks:Aa' s≤536870912:=by omega
 have kt:Aa' t≤536870912:=by omega
 replace ec1:=hid ec1
 replace ec2:=hid ec2
 replace ks:=hid ks
 replace kt:=hid kt
 replace ss:=hid ss
 replace st:=hid st
 replace sa:=hid sa
 replace sb:=hid sb
 replace hg:=hid hg
 replace h0:=hid h0
 replace h1:=hid h1
 obtain ⟨C1,j1,C2,j2,C3,j3,C4,j4,C5,j5,C6,j6,rfl,hpg,hpe⟩:=id hp.opened
 replace hp:=hid hp
 replace hpg:=hid hpg
 replace hpe:=hid hpe
 obtain ⟨C7,j7,C8,j8,rfl,-,-⟩:=id hs.opened
 replace hs:=hid hs
 obtain ⟨C9,j9,C10,j10,rfl,-,-⟩:=id ht.opened
 replace ht:=hid ht
 obtain ⟨w1,hw1⟩:=eX ((((w.alloc (.cells #[.bool (decide (a.num<0)),.slice C1 (Vx.len a.num.natAbs) j1,.slice C2 (Vx.len (below a.den)) j2,.bool (decide (b.num<0)),.slice C3 (Vx.len b.num.natAbs) j3,.slice C4 (Vx.len (below b.den)) j4,.bool (decide (r.num<0)),.slice C5 (Vx.len r.num.natAbs) j5,.slice C6 (Vx.len (below r.den)) j6] 39)).alloc (.cells #[.bool (decide (s.num<0)),.slice C7 (Vx.len s.num.natAbs) j7,.slice C8 (Vx.len (below s.den)) j8] 35)).alloc (.cells #[.bool (decide (t.num<0)),.slice C9 (Vx.len t.num.natAbs) j9,.slice C10 (Vx.len (below t.den)) j10] 35)))
 obtain ⟨b1,g1,g2,g3⟩:=AC hw1
 replace g1:=hid g1
 replace g2:=hid g2
 replace g3:=hid g3
 replace b1:=hid b1
 go_enter Tryz.func28,Tryz.ntmps28
 go_upto_region 1 with fail
 rw [←hw1]
 clear hw1
 have hg:w1.heap[w.heap.size]?=some (.cells #[.bool (decide (a.num<0)),.slice C1 (Vx.len a.num.natAbs) j1,.slice C2 (Vx.len (below a.den)) j2,.bool (decide (b.num<0)),.slice C3 (Vx.len b.num.natAbs) j3,.slice C4 (Vx.len (below b.den)) j4,.bool (decide (r.num<0)),.slice C5 (Vx.len r.num.natAbs) j5,.slice C6 (Vx.len (below r.den)) j6] 39 (0,0)):=((Below.refl _ w1).block _ (gE.1 g1.out).1).trans g1.out
 have z_p_0:w1.cell? ⟨w.heap.size,0,none⟩=some (.bool (decide (a.num<0))):=cR _ _ _ _ _ _ hg
 have z_p_1:w1.cell? ⟨w.heap.size,1,none⟩=some (.slice C1 (Vx.len a.num.natAbs) j1):=cR _ _ _ _ _ _ hg
 have z_p_2:w1.cell? ⟨w.heap.size,2,none⟩=some (.slice C2 (Vx.len (below a.den)) j2):=cR _ _ _ _ _ _ hg
 have z_p_3:w1.cell? ⟨w.heap.size,3,none⟩=some (.bool (decide (b.num<0))):=cR _ _ _ _ _ _ hg
 have z_p_4:w1.cell? ⟨w.heap.size,4,none⟩=some (.slice C3 (Vx.len b.num.natAbs) j3):=cR _ _ _ _ _ _ hg
 have z_p_5:w1.cell? ⟨w.heap.size,5,none⟩=some (.slice C4 (Vx.len (below b.den)) j4):=cR _ _ _ _ _ _ hg
 have z_p_6:w1.cell? ⟨w.heap.size,6,none⟩=some (.bool (decide (r.num<0))):=cR _ _ _ _ _ _ hg
 have z_p_7:w1.cell? ⟨w.heap.size,7,none⟩=some (.slice C5 (Vx.len r.num.natAbs) j5):=cR _ _ _ _ _ _ hg
 have z_p_8:w1.cell? ⟨w.heap.size,8,none⟩=some (.slice C6 (Vx.len (below r.den)) j6):=cR _ _ _ _ _ _ hg
 clear hg
 have HX:=hid (Bu' (hp.out.keep b1.out) hg.out (nT sa.out (by omega)) (nT sb.out (by omega)))
 go_wp2_with fail
 refine (HX.out).mono ?_
 rintro e w2 ⟨rfl,b2⟩
 replace b2:=hid b2
 clear HX
 obtain ⟨z_s_0,z_s_1,z_s_2⟩:=Ad' (Ab' g2.out b2.out)
 have y0_2:=hid (bS b1.out b2.out)
 have HX:=hid (Bc ec1.out (hs.out.keep y0_2.out))
 go_wp2_with fail
 refine (HX.out).mono ?_
 rintro e w3 ⟨rfl,b3⟩
 replace b3:=hid b3
 clear HX
 have y1_3:=hid (bS b2.out b3.out)
 obtain ⟨z_t_0,z_t_1,z_t_2⟩:=Ad' (Ab' g3.out y1_3.out)
 have y0_3:=hid (bS y0_2.out b3.out)
 have HX:=hid (Bc ec2.out (ht.out.keep y0_3.out))
 go_wp2_with fail
 refine (HX.out).mono ?_
 rintro e w4 ⟨rfl,b4⟩
 replace b4:=hid b4
 clear HX
 have y1_4:=hid (bS y1_3.out b4.out)
 obtain ⟨z_s_0,z_s_1,z_s_2⟩:=Ad' (Ab' g2.out y1_4.out)
 go_upto_region 7 with fail
 obtain ⟨w5,hw5⟩:=eX (w4.alloc (.cells #[.bool (decide (s.num<0)),.slice C7 (Vx.len s.num.natAbs) j7,.slice C8 (Vx.len (below s.den)) j8] 35))
 have b5:=hid (AO' hw5)
 have L5:=hid (AR' hw5)
 rw [←hw5]
 clear hw5
 have y1_5:=hid (bS y1_4.out b5.out)
 have y0_5:=hid (bS (bS y0_3.out b4.out) b5.out)
 obtain ⟨B,hB⟩:=eY w4.heap.size
 have hBlt:w.heap.size+2<B:=by rw [←hB];exact Al' (Ab' g3.out (bS (bS b2.out b3.out) b4.out))
 have e0:AP s a 0=s:=by unfold AP;rw [Rat.pow_zero,Rat.mul_one]
 have LB:=L5.out
 rw [hB] at LB ⊢
 have HE:Hid (Se w (.cells #[.bool (decide (a.num<0)),.slice C1 (Vx.len a.num.natAbs) j1,.slice C2 (Vx.len (below a.den)) j2,.bool (decide (b.num<0)),.slice C3 (Vx.len b.num.natAbs) j3,.slice C4 (Vx.len (below b.den)) j4,.bool (decide (r.num<0)),.slice C5 (Vx.len r.num.natAbs) j5,.slice C6 (Vx.len (below r.den)) j6] 39 (0,0)) (.cells #[.bool (decide (t.num<0)),.slice C9 (Vx.len t.num.natAbs) j9,.slice C10 (Vx.len (below t.den)) j10] 35 (0,0)) s a t B 0 w5):=hid ⟨Ab' g1.out y1_5.out,Ab' g3.out y1_5.out,⟨C7,j7,C8,j8,by rw [e0];exact LB,by rw [e0];exact (hs.out.keep y0_5.out)⟩,fun j hj=>absurd hj (Nat.not_lt_zero _),y0_5.out⟩
 clear LB hB e0 L5 g1 g2 g3 hs b1 b2 b3 b4 b5
 go_wp2_with fail
 go_loopw [25] (fun iv wr=>∃ k:Nat,k≤301∧iv=.int .i64 ((k:Nat):Int)∧Hid (Se w (.cells #[.bool (decide (a.num<0)),.slice C1 (Vx.len a.num.natAbs) j1,.slice C2 (Vx.len (below a.den)) j2,.bool (decide (b.num<0)),.slice C3 (Vx.len b.num.natAbs) j3,.slice C4 (Vx.len (below b.den)) j4,.bool (decide (r.num<0)),.slice C5 (Vx.len r.num.natAbs) j5,.slice C6 (Vx.len (below r.den)) j6] 39 (0,0)) (.cells #[.bool (decide (t.num<0)),.slice C9 (Vx.len t.num.natAbs) j9,.slice C10 (Vx.len (below t.den)) j10] 35 (0,0)) s a t B k wr)) (fun iv _=>301 - (intOf iv).toNat)
 case atStart=>exact ⟨0,Nat.zero_le _,rfl,HE⟩
 case round =>
   obtain ⟨k,hk,rfl,hrel⟩:=hrel
   clear HE
   rcases Nat.lt_or_ge k 301 with hkn | hkn
   · have hin:decide (((k:Nat):Int)<301)=true:=dT_ (by omega)
     have hin2:((k:Nat):Int)<301:=by omega
     obtain ⟨gp,gt,⟨A1,n1,B1,m1,gl,hl⟩,hall,HB⟩:=hrel.out
     obtain ⟨q,eq⟩:=eY (AP s a k)
     have sq:Aa' q≤536870912:=by
       rw [←eq]
       have h2:=Hh' s a k
       have h3:(Aa' a+4)*k≤(Aa' a+4)*301:=mL _ hk
       have h4:=sa.out
       have h5:=ss.out
       omega
     rw [eq] at gl hl
     have hwk:IntKind.i64.wrap (((k:Nat):Int)+1)=((k:Nat):Int)+1:=by
       unfold IntKind.wrap
       simp [IntKind.bits,IntKind.signed]
       omega
     obtain ⟨cc,hcc⟩:=eY (cmpQ q t:Int)
     obtain ⟨y0,y1,y2⟩:=Ad' gl
     obtain ⟨z0,z1,z2⟩:=Ad' gt
     have HC:=hid (Bf' hcc hl (ht.out.keep HB) sq kt.out)
     have hBr:=Al' gl
     replace gp:=hid gp
     replace gt:=hid gt
     replace gl:=hid gl
     replace hl:=hid hl
     replace hall:=hid hall
     replace HB:=hid HB
     replace eq:=hid eq
     replace sq:=hid sq
     replace hcc:=hid hcc
     clear hrel
     rcases Decidable.em (q≤t) with hqt | hqt
     · have dc:decide (cc≤0)=true:=dT_ (by rw [←hcc.out];exact Int.not_lt.1 (Cc' hqt))
       have FIN:Hid (AP s a k≤t∧∀ j,j<k→t<AP s a j):=hid ⟨by rw [eq.out];exact hqt,hall.out⟩
       replace hqt:=hid hqt
       clear hall
       go_wp2_with fail
       refine (HC.out).mono ?_
       rintro e w91 ⟨rfl,b91⟩
       have FB:=hid (bS HB.out b91)
       clear HC b91
       go_wp2_with fail
       go_ret2
       exact ⟨Or.inl ⟨k,by omega,rfl,FIN.out.1,FIN.out.2⟩,FB.out⟩
     · have dc:decide (cc≤0)=false:=dF_ (by rw [←hcc.out];exact Int.not_le.2 (CO' hqt))
       have hall2:Hid (∀ j,j<k+1→t<AP s a j):=hid (fun j hj=>by
         rcases Nat.lt_or_ge j k with h | h
         · exact hall.out j h
         · obtain rfl:j=k:=by omega
           rw [eq.out];exact Rat.not_le.1 hqt)
       replace hqt:=hid hqt
       obtain ⟨d,ed⟩:=eY (1 - a:Rat)
       obtain ⟨m,em⟩:=eY (q*d:Rat)
       have es:Hid (AP s a (k+1)=m):=hid (by rw [←DZ',eq.out,ed];exact em)
       have kd:Aa' d≤536870912:=by rw [←ed];have h2:=Vx.AC' 1 a;have h3:Aa' 1≤3:=(by decide);have h4:=sa.out;omega
       replace kd:=hid kd
       replace ed:=hid ed
       replace em:=hid em
       clear hall
       go_wp2_with fail
       refine (HC.out).mono ?_
       rintro e w91 ⟨rfl,b91⟩
       replace b91:=hid b91
       clear HC y0 y1 y2 z0 z1 z2
       have gl9:=hid (Ab' gl.out b91.out)
       have gp9:=hid (Ab' gp.out b91.out)
       have hBr9:=Al' gl9.out
       have hPr9:=Al' gp9.out
       obtain ⟨y0,y1,y2⟩:=Ad' gl9.out
       have p0:w91.cell? ⟨w.heap.size,0,none⟩=some (.bool (decide (a.num<0))):=cR _ _ _ _ _ _ gp9.out
       have p1:w91.cell? ⟨w.heap.size,1,none⟩=some (.slice C1 (Vx.len a.num.natAbs) j1):=cR _ _ _ _ _ _ gp9.out
       have p2:w91.cell? ⟨w.heap.size,2,none⟩=some (.slice C2 (Vx.len (below a.den)) j2):=cR _ _ _ _ _ _ gp9.out
       have p3:w91.cell? ⟨w.heap.size,3,none⟩=some (.bool (decide (b.num<0))):=cR _ _ _ _ _ _ gp9.out
       have p4:w91.cell? ⟨w.heap.size,4,none⟩=some (.slice C3 (Vx.len b.num.natAbs) j3):=cR _ _ _ _ _ _ gp9.out
       have p5:w91.cell? ⟨w.heap.size,5,none⟩=some (.slice C4 (Vx.len (below b.den)) j4):=cR _ _ _ _ _ _ gp9.out
       have p6:w91.cell? ⟨w.heap.size,6,none⟩=some (.bool (decide (r.num<0))):=cR _ _ _ _ _ _ gp9.out
       have p7:w91.cell? ⟨w.heap.size,7,none⟩=some (.slice C5 (Vx.len r.num.natAbs) j5):=cR _ _ _ _ _ _ gp9.out
       have p8:w91.cell? ⟨w.heap.size,8,none⟩=some (.slice C6 (Vx.len (below r.den)) j6):=cR _ _ _ _ _ _ gp9.out
       go_upto_region 12 with fail
       go_wp2_with fail
       refine Dx (s:=4) (S:=(fun w'=>(w'.cell? ⟨B,0,none⟩=w91.cell? ⟨B,0,none⟩∧w'.cell? ⟨B,1,none⟩=w91.cell? ⟨B,1,none⟩∧w'.cell? ⟨B,2,none⟩=w91.cell? ⟨B,2,none⟩∧w'.cell? ⟨w.heap.size,0,none⟩=w91.cell? ⟨w.heap.size,0,none⟩∧w'.cell? ⟨w.heap.size,1,none⟩=w91.cell? ⟨w.heap.size,1,none⟩∧w'.cell? ⟨w.heap.size,2,none⟩=w91.cell? ⟨w.heap.size,2,none⟩∧w'.cell? ⟨w.heap.size,3,none⟩=w91.cell? ⟨w.heap.size,3,none⟩∧w'.cell? ⟨w.heap.size,4,none⟩=w91.cell? ⟨w.heap.size,4,none⟩∧w'.cell? ⟨w.heap.size,5,none⟩=w91.cell? ⟨w.heap.size,5,none⟩∧w'.cell? ⟨w.heap.size,6,none⟩=w91.cell? ⟨w.heap.size,6,none⟩∧w'.cell? ⟨w.heap.size,7,none⟩=w91.cell? ⟨w.heap.size,7,none⟩∧w'.cell? ⟨w.heap.size,8,none⟩=w91.cell? ⟨w.heap.size,8,none⟩))) (by kernel_rfl) (by rfl) (by rfl) (by kernel_rfl) ?_
       simp only [Dj,lt,ly,lu]
       have hHeld:(fun w'=>(w'.cell? ⟨B,0,none⟩=w91.cell? ⟨B,0,none⟩∧w'.cell? ⟨B,1,none⟩=w91.cell? ⟨B,1,none⟩∧w'.cell? ⟨B,2,none⟩=w91.cell? ⟨B,2,none⟩∧w'.cell? ⟨w.heap.size,0,none⟩=w91.cell? ⟨w.heap.size,0,none⟩∧w'.cell? ⟨w.heap.size,1,none⟩=w91.cell? ⟨w.heap.size,1,none⟩∧w'.cell? ⟨w.heap.size,2,none⟩=w91.cell? ⟨w.heap.size,2,none⟩∧w'.cell? ⟨w.heap.size,3,none⟩=w91.cell? ⟨w.heap.size,3,none⟩∧w'.cell? ⟨w.heap.size,4,none⟩=w91.cell? ⟨w.heap.size,4,none⟩∧w'.cell? ⟨w.heap.size,5,none⟩=w91.cell? ⟨w.heap.size,5,none⟩∧w'.cell? ⟨w.heap.size,6,none⟩=w91.cell? ⟨w.heap.size,6,none⟩∧w'.cell? ⟨w.heap.size,7,none⟩=w91.cell? ⟨w.heap.size,7,none⟩∧w'.cell? ⟨w.heap.size,8,none⟩=w91.cell? ⟨w.heap.size,8,none⟩)) w91:=⟨rfl,rfl,rfl,rfl,rfl,rfl,rfl,rfl,rfl,rfl,rfl,rfl⟩
       obtain ⟨w92,hw92⟩:=eX w91.drew
       have b92:Hid (Below w91.heap.size w91 w92):=hid (by rw [hw92];exact ⟨rfl,rfl,rfl,nL _,fun _ _=>rfl⟩)
       replace hHeld:(fun w'=>(w'.cell? ⟨B,0,none⟩=w91.cell? ⟨B,0,none⟩∧w'.cell? ⟨B,1,none⟩=w91.cell? ⟨B,1,none⟩∧w'.cell? ⟨B,2,none⟩=w91.cell? ⟨B,2,none⟩∧w'.cell? ⟨w.heap.size,0,none⟩=w91.cell? ⟨w.heap.size,0,none⟩∧w'.cell? ⟨w.heap.size,1,none⟩=w91.cell? ⟨w.heap.size,1,none⟩∧w'.cell? ⟨w.heap.size,2,none⟩=w91.cell? ⟨w.heap.size,2,none⟩∧w'.cell? ⟨w.heap.size,3,none⟩=w91.cell? ⟨w.heap.size,3,none⟩∧w'.cell? ⟨w.heap.size,4,none⟩=w91.cell? ⟨w.heap.size,4,none⟩∧w'.cell? ⟨w.heap.size,5,none⟩=w91.cell? ⟨w.heap.size,5,none⟩∧w'.cell? ⟨w.heap.size,6,none⟩=w91.cell? ⟨w.heap.size,6,none⟩∧w'.cell? ⟨w.heap.size,7,none⟩=w91.cell? ⟨w.heap.size,7,none⟩∧w'.cell? ⟨w.heap.size,8,none⟩=w91.cell? ⟨w.heap.size,8,none⟩)) w92:=by rw [hw92];exact hHeld
       rw [←hw92]
       clear hw92
       refine tk (i:=0) (h:=?_)
       try simp only [Act.put,lt,ly,lu]
       refine tk (i:=1) (h:=?_)
       try simp only [Act.put,lt,ly,lu]
       have y90_92:=hid (bS b91.out b92.out)
       refine rdz (i:=2) (h:=fun K hK=>?_);go_simp;go_at_call 67
       refine ((show Calls _ _ _ _ (Az' _ d) from ed.out ▸ FD' (hp.out.keep (bS HB.out y90_92.out)) (nT sa.out (by omega)))).mono ?_
       rintro e w93 ⟨v93,rfl,hv93,b93⟩
       obtain ⟨C92,j92,C93,j93,rfl,-,-⟩:=id hv93.opened
       replace hv93:=hid hv93
       replace b93:=hid b93
       have y91_93:=hid (bS b92.out b93.out)
       have hS:=y91_93.out
       clear hHeld
       refine hK.out _ _ ?_ (fun hHeld=>?_)
       · (try dsimp only)
         exact ⟨hS.cell (p:=⟨B,0,none⟩) hBr9,hS.cell (p:=⟨B,1,none⟩) hBr9,hS.cell (p:=⟨B,2,none⟩) hBr9,hS.cell (p:=⟨w.heap.size,0,none⟩) hPr9,hS.cell (p:=⟨w.heap.size,1,none⟩) hPr9,hS.cell (p:=⟨w.heap.size,2,none⟩) hPr9,hS.cell (p:=⟨w.heap.size,3,none⟩) hPr9,hS.cell (p:=⟨w.heap.size,4,none⟩) hPr9,hS.cell (p:=⟨w.heap.size,5,none⟩) hPr9,hS.cell (p:=⟨w.heap.size,6,none⟩) hPr9,hS.cell (p:=⟨w.heap.size,7,none⟩) hPr9,hS.cell (p:=⟨w.heap.size,8,none⟩) hPr9⟩
       clear hK K hS;try simp only [Act.put,lt,ly,lu]
       have y90_93:=hid (bS y90_92.out b93.out)
       refine rdz (i:=3) (h:=fun K hK=>?_);go_simp;go_at_call 25
       refine (CZ' em.out (hl.out.keep y90_93.out) hv93.out sq.out kd.out).mono ?_
       rintro e w94 ⟨v94,rfl,hv94,b94⟩
       obtain ⟨C94,j94,C95,j95,rfl,-,-⟩:=id hv94.opened
       replace hv94:=hid hv94
       replace b94:=hid b94
       have y91_94:=hid (bS y91_93.out b94.out)
       have hS:=y91_94.out
       clear hHeld
       refine hK.out _ _ ?_ (fun hHeld=>?_)
       · (try dsimp only)
         exact ⟨hS.cell (p:=⟨B,0,none⟩) hBr9,hS.cell (p:=⟨B,1,none⟩) hBr9,hS.cell (p:=⟨B,2,none⟩) hBr9,hS.cell (p:=⟨w.heap.size,0,none⟩) hPr9,hS.cell (p:=⟨w.heap.size,1,none⟩) hPr9,hS.cell (p:=⟨w.heap.size,2,none⟩) hPr9,hS.cell (p:=⟨w.heap.size,3,none⟩) hPr9,hS.cell (p:=⟨w.heap.size,4,none⟩) hPr9,hS.cell (p:=⟨w.heap.size,5,none⟩) hPr9,hS.cell (p:=⟨w.heap.size,6,none⟩) hPr9,hS.cell (p:=⟨w.heap.size,7,none⟩) hPr9,hS.cell (p:=⟨w.heap.size,8,none⟩) hPr9⟩
       clear hK K hS;try simp only [Act.put,lt,ly,lu]
       refine tk (i:=4) (h:=?_)
       try simp only [Act.put,lt,ly,lu]
       refine wpAnyH_done (by kernel_rfl) ?_ _
       clear hHeld y0 y1 y2 p0 p1 p2 p3 p4 p5 p6 p7 p8
       have y90_94:=hid (bS y90_93.out b94.out)
       have DB:=Ab' gl.out y90_94.out
       have q0:=cR _ _ 0 _ _ _ DB
       have F0:=fR w94 B 0 _ _ DB
       have q1:=cR _ _ 1 _ _ _ DB
       have F1:=fR w94 B 1 _ _ DB
       have q2:=cR _ _ 2 _ _ _ DB
       have F2:=fR w94 B 2 _ _ DB
       simp only [lg,lz,ls] at q0 q1 q2
       obtain ⟨ue,hw⟩:=eX ((((w94.setCell ⟨B,0,none⟩ (.bool (decide (m.num<0)))).setCell ⟨B,1,none⟩ (.slice C94 (Vx.len m.num.natAbs) j94)).setCell ⟨B,2,none⟩ (.slice C95 (Vx.len (below m.den)) j95)))
       obtain ⟨E,OT,LV,BL⟩:=AE DB hw
       have FIN:Hid (Se w (.cells #[.bool (decide (a.num<0)),.slice C1 (Vx.len a.num.natAbs) j1,.slice C2 (Vx.len (below a.den)) j2,.bool (decide (b.num<0)),.slice C3 (Vx.len b.num.natAbs) j3,.slice C4 (Vx.len (below b.den)) j4,.bool (decide (r.num<0)),.slice C5 (Vx.len r.num.natAbs) j5,.slice C6 (Vx.len (below r.den)) j6] 39 (0,0)) (.cells #[.bool (decide (t.num<0)),.slice C9 (Vx.len t.num.natAbs) j9,.slice C10 (Vx.len (below t.den)) j10] 35 (0,0)) s a t B (k+1) ue):=hid ⟨OT _ _ (by omega) (Ab' gp.out y90_94.out),OT _ _ (by omega) (Ab' gt.out y90_94.out),⟨C94,j94,C95,j95,by rw [es.out];exact E,by rw [es.out];exact LV.num hv94.out⟩,hall2.out,BL _ _ (by omega) (bS HB.out y90_94.out)⟩
       refine FS' (by rfl) (by rfl) ?_
       clear DB E OT LV BL
       go_simp
       rw [←hw]
       clear hw q0 q1 q2 F0 F1 F2
       go_wp2_with fail
       go_roundw
       case rel=>exact ⟨k+1,by omega,by go_num,FIN⟩
       case measure=>simp [intOf];omega
   · obtain rfl:k=301:=Nat.le_antisymm hk hkn
     have hin:decide (((301:Nat):Int)<301)=false:=by decide
     have FIN:=hid hrel.out.2.2.2
     clear hrel
     go_wp2_with fail
     go_ret2
     exact ⟨Or.inr ⟨rfl,fun j hj=>FIN.out.1 j (by omega)⟩,FIN.out.2⟩
theorem Hi {w:World} {b:Nat} {p q z:Rat} {T:TypeId} {s1 s2 s3:Bool} {A1 A2 A3 A4 A5 A6:Option Addr} {n1 c1 n2 c2 n3 c3 n4 c4 n5 c5 n6 c6:Nat} (h:w.heap[b]?=some (.cells #[.bool s1,.slice A1 n1 c1,.slice A2 n2 c2,.bool s2,.slice A3 n3 c3,.slice A4 n4 c4,.bool s3,.slice A5 n5 c5,.slice A6 n6 c6] T (0,0)))
   (hp:Ac' w (.agg #[.bool s1,.slice A1 n1 c1,.slice A2 n2 c2]) p) (hq:Ac' w (.agg #[.bool s2,.slice A3 n3 c3,.slice A4 n4 c4]) q) (hz:Ac' w (.agg #[.bool s3,.slice A5 n5 c5,.slice A6 n6 c6]) z):AG w b 0 [p,q,z]:=by
 obtain ⟨r0,r1,r2,r3,r4,r5,r6,r7,r8⟩:=AY h
 intro i x hi
 match i with
 | 0=>obtain rfl:=Option.some.inj hi;exact ⟨_,_,_,_,_,_,_,r0,r1,r2,hp⟩
 | 1=>obtain rfl:=Option.some.inj hi;exact ⟨_,_,_,_,_,_,_,r3,r4,r5,hq⟩
 | 2=>obtain rfl:=Option.some.inj hi;exact ⟨_,_,_,_,_,_,_,r6,r7,r8,hz⟩
 | i+3=>simp at hi
theorem Dp' {a b r:Rat} (ea:mkRat 1 2=a) (eb:mkRat 3 4=b) (er:0=r):Ar' a b r∧(Aa' a≤9∧Aa' b≤9)∧Aa' r≤9:=by
 subst ea eb er
 unfold Ar'
 decide +kernel
theorem Ic' {x z s r:Rat} (ex:((16:Int):Rat)=x) (ez:((9:Int):Rat)=z) (es:((1:Int):Rat) / ((4:Int):Rat)=s) (er:0=r):0≤s∧s<1∧Aa' z≤9∧Aa' x≤9∧Aa' 0≤9∧Aa' s≤9∧¬ (x - 0 - r≤0∧0≤x - 0+r) ∧
   (if (1 - s)^2≤leastOf ((z - 0 - r) / (x - 0 - r)) [(z - 0 - r) / (x - 0+r),(z - 0+r) / (x - 0 - r),(z - 0+r) / (x - 0+r)] then 1 else if greatestOf ((z - 0 - r) / (x - 0 - r)) [(z - 0 - r) / (x - 0+r),(z - 0+r) / (x - 0 - r),(z - 0+r) / (x - 0+r)]<(1 - s)^2 then 2 else 3)=(1:Int):=by
 subst ex ez es er
 decide +kernel
theorem Gx' {w:World} {P:Nat} {a b r:Rat} {A1 B1 A2 B2 A3 B3:Option Addr} {c1 d1 c2 d2 c3 d3:Nat}  {y0 y2 y3 y4 y5 y6 y7 y8 y9 y10 y11 y12 y13 y14 y15 y16 y17 y18 y19 y20 y21 y22 y23 y24 y25 y26 y27 y28 y29 y30 y31 y32 y33 y34 y35 y36 y37 y38 y39 y40 y41 y42 y43 y44 y45 y46 y47 y48 y49 y50 y51 y52 y53 y54 y55 y56 y57 y58 y59 y60 y61 y62 y63 y64 y65 y66 y67 y68 y69 y70 y71 y72 y73 y74 y75 y76 y77 y78 y79 y80 y81 y82 y83 y84 y85 y86 y87 y88 y89 y90 y91 y92 y93 y94 y95 y96 y97 y98 y99 y100 y101 y102 y103 y104 y105 y106 y107 y108 y109 y110 y111 y112 y113:Value} {Po:Ending→World→Prop} (hP:w.heap[P]?=some (.cells #[.bool (decide (a.num<0)),.slice A1 (Vx.len a.num.natAbs) c1,.slice B1 (Vx.len (below a.den)) d1,.bool (decide (b.num<0)),.slice A2 (Vx.len b.num.natAbs) c2,.slice B2 (Vx.len (below b.den)) d2,.bool (decide (r.num<0)),.slice A3 (Vx.len r.num.natAbs) c3,.slice B3 (Vx.len (below r.den)) d3] 39 (0,0))) (hp:AA' w (.agg #[.bool (decide (a.num<0)),.slice A1 (Vx.len a.num.natAbs) c1,.slice B1 (Vx.len (below a.den)) d1,.bool (decide (b.num<0)),.slice A2 (Vx.len b.num.natAbs) c2,.slice B2 (Vx.len (below b.den)) d2,.bool (decide (r.num<0)),.slice A3 (Vx.len r.num.natAbs) c3,.slice B3 (Vx.len (below r.den)) d3]) a b r) (ea:mkRat 1 2=a) (eb:mkRat 3 4=b) (er:0=r)  (hPo:∀ w',Below w.heap.size w w'→Po (.returned (.bool true)) w') :
   (codeAt 6 Tryz.f5).wp Tryz.prog (bodyPost Tryz.prog Tryz.f5 Po) { tmps:=#[y0,.pointer (some ⟨P,0,none⟩),y2,y3,y4,y5,y6,y7,y8,y9,y10,y11,y12,y13,y14,y15,y16,y17,y18,y19,y20,y21,y22,y23,y24,y25,y26,y27,y28,y29,y30,y31,y32,y33,y34,y35,y36,y37,y38,y39,y40,y41,y42,y43,y44,y45,y46,y47,y48,y49,y50,y51,y52,y53,y54,y55,y56,y57,y58,y59,y60,y61,y62,y63,y64,y65,y66,y67,y68,y69,y70,y71,y72,y73,y74,y75,y76,y77,y78,y79,y80,y81,y82,y83,y84,y85,y86,y87,y88,y89,y90,y91,y92,y93,y94,y95,y96,y97,y98,y99,y100,y101,y102,y103,y104,y105,y106,y107,y108,y109,y110,y111,y112,y113],defers:=[] } w:=by
 obtain ⟨x,ex⟩:=eY (((16:Int):Rat):Rat)
 obtain ⟨y,ey⟩:=eY (((12:Int):Rat):Rat)
 obtain ⟨z,ez⟩:=eY (((9:Int):Rat):Rat)
 obtain ⟨s,es⟩:=eY (((1:Int):Rat) / ((4:Int):Rat):Rat)
 have KP:=hid (Dp' ea eb er)
 have KT:=hid (Ic' ex ez es er)
 replace ex:=hid ex
 replace ey:=hid ey
 replace ez:=hid ez
 replace es:=hid es
 replace ea:=hid ea
 replace eb:=hid eb
 replace er:=hid er
 replace hP:=hid hP
 replace hp:=hid hp
 replace hPo:=hid hPo
 show Code.wp _ (Code.seq _ _) _ _ _
 have HX:=hid (Dj' (w:=w) es.out (by omega) (by omega) (by omega) (by omega))
 go_wp2_with fail
 refine (HX.out).mono ?_
 rintro e w1 ⟨v1,rfl,hv1,b1⟩
 obtain ⟨C1,j1,C2,j2,rfl,-,-⟩:=id hv1.opened
 replace hv1:=hid hv1
 replace b1:=hid b1
 clear HX
 go_upto_region 8 with fail
 obtain ⟨w2,hw2⟩:=eX (w1.alloc (.cells #[.bool (decide (s.num<0)),.slice C1 (Vx.len s.num.natAbs) j1,.slice C2 (Vx.len (below s.den)) j2] 35))
 have b2:=hid (AO' hw2)
 have L2:=hid (AR' hw2)
 rw [←hw2]
 clear hw2
 have y0_2:=hid (bS b1.out b2.out)
 have hg:w2.heap[P]?=some (.cells #[.bool (decide (a.num<0)),.slice A1 (Vx.len a.num.natAbs) c1,.slice B1 (Vx.len (below a.den)) d1,.bool (decide (b.num<0)),.slice A2 (Vx.len b.num.natAbs) c2,.slice B2 (Vx.len (below b.den)) d2,.bool (decide (r.num<0)),.slice A3 (Vx.len r.num.natAbs) c3,.slice B3 (Vx.len (below r.den)) d3] 39 (0,0)):=(y0_2.out.block _ (gE.1 hP.out).1).trans hP.out
 have z_p_0:w2.cell? ⟨P,0,none⟩=some (.bool (decide (a.num<0))):=cR _ _ _ _ _ _ hg
 have z_p_1:w2.cell? ⟨P,1,none⟩=some (.slice A1 (Vx.len a.num.natAbs) c1):=cR _ _ _ _ _ _ hg
 have z_p_2:w2.cell? ⟨P,2,none⟩=some (.slice B1 (Vx.len (below a.den)) d1):=cR _ _ _ _ _ _ hg
 have z_p_3:w2.cell? ⟨P,3,none⟩=some (.bool (decide (b.num<0))):=cR _ _ _ _ _ _ hg
 have z_p_4:w2.cell? ⟨P,4,none⟩=some (.slice A2 (Vx.len b.num.natAbs) c2):=cR _ _ _ _ _ _ hg
 have z_p_5:w2.cell? ⟨P,5,none⟩=some (.slice B2 (Vx.len (below b.den)) d2):=cR _ _ _ _ _ _ hg
 have z_p_6:w2.cell? ⟨P,6,none⟩=some (.bool (decide (r.num<0))):=cR _ _ _ _ _ _ hg
 have z_p_7:w2.cell? ⟨P,7,none⟩=some (.slice A3 (Vx.len r.num.natAbs) c3):=cR _ _ _ _ _ _ hg
 have z_p_8:w2.cell? ⟨P,8,none⟩=some (.slice B3 (Vx.len (below r.den)) d3):=cR _ _ _ _ _ _ hg
 clear hg
 obtain ⟨z_s_0,z_s_1,z_s_2⟩:=Ad' L2.out
 have hPl:=Al' (Ab' hP.out y0_2.out)
 have hsl:=Al' L2.out
 go_wp2_with fail
 refine wp_region_held_drew (S:=(fun w'=>(w'.cell? ⟨P,0,none⟩=w2.cell? ⟨P,0,none⟩∧w'.cell? ⟨P,1,none⟩=w2.cell? ⟨P,1,none⟩∧w'.cell? ⟨P,2,none⟩=w2.cell? ⟨P,2,none⟩∧w'.cell? ⟨P,3,none⟩=w2.cell? ⟨P,3,none⟩∧w'.cell? ⟨P,4,none⟩=w2.cell? ⟨P,4,none⟩∧w'.cell? ⟨P,5,none⟩=w2.cell? ⟨P,5,none⟩∧w'.cell? ⟨P,6,none⟩=w2.cell? ⟨P,6,none⟩∧w'.cell? ⟨P,7,none⟩=w2.cell? ⟨P,7,none⟩∧w'.cell? ⟨P,8,none⟩=w2.cell? ⟨P,8,none⟩∧w'.cell? ⟨w1.heap.size,0,none⟩=w2.cell? ⟨w1.heap.size,0,none⟩∧w'.cell? ⟨w1.heap.size,1,none⟩=w2.cell? ⟨w1.heap.size,1,none⟩∧w'.cell? ⟨w1.heap.size,2,none⟩=w2.cell? ⟨w1.heap.size,2,none⟩))) (by kernel_rfl) ?_ (fun hHeld=>?_)
 · (try dsimp only)
   exact ⟨rfl,rfl,rfl,rfl,rfl,rfl,rfl,rfl,rfl,rfl,rfl,rfl⟩
 obtain ⟨w3,hw3⟩:=eX w2.drew
 have b3:Hid (Below w2.heap.size w2 w3):=hid (by rw [hw3];exact ⟨rfl,rfl,rfl,nL _,fun _ _=>rfl⟩)
 rw [←hw3] at hHeld ⊢
 clear hw3
 have y0_3:=hid (bS y0_2.out b3.out)
 have lbW:w.heap.size≤w3.heap.size:=y0_3.out.size
 have lbS:w2.heap.size≤w3.heap.size:=b3.out.size
 refine tk (i:=0) (h:=?_)
 try simp only [Act.put,lt,ly,lu]
 refine tk (i:=5) (h:=?_)
 try simp only [Act.put,lt,ly,lu]
 refine tk (i:=6) (h:=?_)
 try simp only [Act.put,lt,ly,lu]
 refine rdz (i:=1) (h:=fun K hK=>?_)
 go_simp;go_at_call 18
 refine (AE' (w:=w3) ex.out (by omega) (by omega)).mono ?_
 rintro e w4 ⟨v4,rfl,hv4,b4⟩
 obtain ⟨C3,j3,C4,j4,rfl,-,-⟩:=id hv4.opened
 replace hv4:=hid hv4
 replace b4:=hid b4
 have y2_4:=hid (bS b3.out b4.out)
 have hS:=y2_4.out
 clear hHeld
 refine hK.out _ _ ?_ (fun hHeld=>?_)
 · (try dsimp only)
   exact ⟨hS.cell (p:=⟨P,0,none⟩) hPl,hS.cell (p:=⟨P,1,none⟩) hPl,hS.cell (p:=⟨P,2,none⟩) hPl,hS.cell (p:=⟨P,3,none⟩) hPl,hS.cell (p:=⟨P,4,none⟩) hPl,hS.cell (p:=⟨P,5,none⟩) hPl,hS.cell (p:=⟨P,6,none⟩) hPl,hS.cell (p:=⟨P,7,none⟩) hPl,hS.cell (p:=⟨P,8,none⟩) hPl,hS.cell (p:=⟨w1.heap.size,0,none⟩) hsl,hS.cell (p:=⟨w1.heap.size,1,none⟩) hsl,hS.cell (p:=⟨w1.heap.size,2,none⟩) hsl⟩
 clear hK K hS;try simp only [Act.put,lt,ly,lu]
 refine rdz (i:=2) (h:=fun K hK=>?_)
 go_simp;go_at_call 18
 refine (AE' (w:=w4) ey.out (by omega) (by omega)).mono ?_
 rintro e w5 ⟨v5,rfl,hv5,b5⟩
 obtain ⟨C5,j5,C6,j6,rfl,-,-⟩:=id hv5.opened
 replace hv5:=hid hv5
 replace b5:=hid b5
 have y2_5:=hid (bS y2_4.out b5.out)
 have hS:=y2_5.out
 clear hHeld
 refine hK.out _ _ ?_ (fun hHeld=>?_)
 · (try dsimp only)
   exact ⟨hS.cell (p:=⟨P,0,none⟩) hPl,hS.cell (p:=⟨P,1,none⟩) hPl,hS.cell (p:=⟨P,2,none⟩) hPl,hS.cell (p:=⟨P,3,none⟩) hPl,hS.cell (p:=⟨P,4,none⟩) hPl,hS.cell (p:=⟨P,5,none⟩) hPl,hS.cell (p:=⟨P,6,none⟩) hPl,hS.cell (p:=⟨P,7,none⟩) hPl,hS.cell (p:=⟨P,8,none⟩) hPl,hS.cell (p:=⟨w1.heap.size,0,none⟩) hsl,hS.cell (p:=⟨w1.heap.size,1,none⟩) hsl,hS.cell (p:=⟨w1.heap.size,2,none⟩) hsl⟩
 clear hK K hS;try simp only [Act.put,lt,ly,lu]
 refine rdz (i:=3) (h:=fun K hK=>?_)
 go_simp;go_at_call 18
 refine (AE' (w:=w5) ez.out (by omega) (by omega)).mono ?_
 rintro e w6 ⟨v6,rfl,hv6,b6⟩
 obtain ⟨C7,j7,C8,j8,rfl,-,-⟩:=id hv6.opened
 replace hv6:=hid hv6
 replace b6:=hid b6
 have y2_6:=hid (bS y2_5.out b6.out)
 have hS:=y2_6.out
 clear hHeld
 refine hK.out _ _ ?_ (fun hHeld=>?_)
 · (try dsimp only)
   exact ⟨hS.cell (p:=⟨P,0,none⟩) hPl,hS.cell (p:=⟨P,1,none⟩) hPl,hS.cell (p:=⟨P,2,none⟩) hPl,hS.cell (p:=⟨P,3,none⟩) hPl,hS.cell (p:=⟨P,4,none⟩) hPl,hS.cell (p:=⟨P,5,none⟩) hPl,hS.cell (p:=⟨P,6,none⟩) hPl,hS.cell (p:=⟨P,7,none⟩) hPl,hS.cell (p:=⟨P,8,none⟩) hPl,hS.cell (p:=⟨w1.heap.size,0,none⟩) hsl,hS.cell (p:=⟨w1.heap.size,1,none⟩) hsl,hS.cell (p:=⟨w1.heap.size,2,none⟩) hsl⟩
 clear hK K hS;try simp only [Act.put,lt,ly,lu]
 refine rdz (i:=4) (h:=fun K hK=>?_)
 have y3_6:=hid (bS (bS b4.out b5.out) b6.out)
 have lb_sl:w3.heap.size≤w6.heap.size:=y3_6.out.size
 go_simp
 obtain ⟨w7,hw7⟩:=eX (w6.alloc (.cells #[.bool (decide (x.num<0)),.slice C3 (Vx.len x.num.natAbs) j3,.slice C4 (Vx.len (below x.den)) j4,.bool (decide (y.num<0)),.slice C5 (Vx.len y.num.natAbs) j5,.slice C6 (Vx.len (below y.den)) j6,.bool (decide (z.num<0)),.slice C7 (Vx.len z.num.natAbs) j7,.slice C8 (Vx.len (below z.den)) j8] 35))
 have b7:=hid (AO' hw7)
 have L7:=hid (AR' hw7)
 rw [←hw7]
 clear hw7
 have y2_7:=hid (bS y2_6.out b7.out)
 have hS:=y2_7.out
 clear hHeld
 refine hK.out _ _ ?_ (fun hHeld=>?_)
 · (try dsimp only)
   exact ⟨hS.cell (p:=⟨P,0,none⟩) hPl,hS.cell (p:=⟨P,1,none⟩) hPl,hS.cell (p:=⟨P,2,none⟩) hPl,hS.cell (p:=⟨P,3,none⟩) hPl,hS.cell (p:=⟨P,4,none⟩) hPl,hS.cell (p:=⟨P,5,none⟩) hPl,hS.cell (p:=⟨P,6,none⟩) hPl,hS.cell (p:=⟨P,7,none⟩) hPl,hS.cell (p:=⟨P,8,none⟩) hPl,hS.cell (p:=⟨w1.heap.size,0,none⟩) hsl,hS.cell (p:=⟨w1.heap.size,1,none⟩) hsl,hS.cell (p:=⟨w1.heap.size,2,none⟩) hsl⟩
 clear hK K hS;try simp only [Act.put,lt,ly,lu]
 refine rdz (i:=7) (h:=fun K hK=>?_)
 have y0_7:=hid (bS (bS (bS (bS y0_3.out b4.out) b5.out) b6.out) b7.out)
 have y1_7:=hid (bS (bS (bS (bS (bS b2.out b3.out) b4.out) b5.out) b6.out) b7.out)
 have y4_7:=hid (bS (bS b5.out b6.out) b7.out)
 have y5_7:=hid (bS b6.out b7.out)
 go_simp;go_at_call 7
 refine (DZ (n:=2) (n1:=3) (k:=1) (hp.out.keep y0_7.out) (Bi' w7) (hv1.out.keep y1_7.out) (Hi L7.out (hv4.out.keep y4_7.out) (hv5.out.keep y5_7.out) (hv6.out.keep b7.out)) rfl rfl rfl (by omega) (by omega) KP.out.1 KT.out.1 KT.out.2.1 (nT KT.out.2.2.1 (by omega)) (nT KT.out.2.2.2.1 (by omega)) (nT KT.out.2.2.2.2.1 (by omega)) (nT KT.out.2.2.2.2.2.1 (by omega)) (nT KP.out.2.2 (by omega)) ⟨nT KP.out.2.1.1 (by omega),nT KP.out.2.1.2 (by omega)⟩ KT.out.2.2.2.2.2.2.1 rfl rfl KT.out.2.2.2.2.2.2.2).mono ?_
 rintro e w8 ⟨rfl,b8⟩
 replace b8:=hid b8
 have y2_8:=hid (bS y2_7.out b8.out)
 have hS:=y2_8.out
 clear hHeld
 refine hK.out _ _ ?_ (fun hHeld=>?_)
 · (try dsimp only)
   exact ⟨hS.cell (p:=⟨P,0,none⟩) hPl,hS.cell (p:=⟨P,1,none⟩) hPl,hS.cell (p:=⟨P,2,none⟩) hPl,hS.cell (p:=⟨P,3,none⟩) hPl,hS.cell (p:=⟨P,4,none⟩) hPl,hS.cell (p:=⟨P,5,none⟩) hPl,hS.cell (p:=⟨P,6,none⟩) hPl,hS.cell (p:=⟨P,7,none⟩) hPl,hS.cell (p:=⟨P,8,none⟩) hPl,hS.cell (p:=⟨w1.heap.size,0,none⟩) hsl,hS.cell (p:=⟨w1.heap.size,1,none⟩) hsl,hS.cell (p:=⟨w1.heap.size,2,none⟩) hsl⟩
 clear hK K hS;try simp only [Act.put,lt,ly,lu]
 refine tk (i:=8) (h:=?_)
 try simp only [Act.put,lt,ly,lu]
 refine tk (i:=9) (h:=?_)
 try simp only [Act.put,lt,ly,lu]
 refine tk (i:=10) (h:=?_)
 try simp only [Act.put,lt,ly,lu]
 refine tk (i:=11) (h:=?_)
 try simp only [Act.put,lt,ly,lu]
 refine tk (i:=12) (h:=?_)
 try simp only [Act.put,lt,ly,lu]
 refine wpAnyH_done (by kernel_rfl) ?_ _
 clear hHeld
 have y0_8:=hid (bS y0_7.out b8.out)
 have FB:=hid y0_8.out
 go_wp2_with fail
 exact hPo.out _ FB.out
theorem kq1 {x:Rat} (e:(6:Rat)=x):Bj' x=[54]∧Aa' x≤9:=by subst e;decide +kernel
theorem kq2 {x:Rat} (e:mkRat 15 2=x):Bj' x=[55,46,53]∧Aa' x≤9:=by subst e;decide +kernel
theorem kq3 {x:Rat} (e:mkRat 20 3=x):Bj' x=[50,48,47,51]∧Aa' x≤9:=by subst e;decide +kernel
theorem kq4 {x:Rat} (e:(8:Rat)=x):Bj' x=[56]∧Aa' x≤9:=by subst e;decide +kernel
theorem Fo {w:World} {P:Nat} {a b r:Rat} {A1 B1 A2 B2 A3 B3:Option Addr} {c1 d1 c2 d2 c3 d3:Nat} {x y z v:Rat} {g bq:Nat} {A4 B4 A5 B5 A6 B6 A7 B7:Option Addr} {c4 d4 c5 d5 c6 d6 c7 d7:Nat} {y0 y2 y9 y10 y11 y12 y13 y14 y15 y16 y17 y18 y19 y20 y21 y22 y23 y24 y25 y26 y27 y28 y29 y30 y31 y32 y33 y34 y35 y36 y37 y38 y39 y40 y41 y42 y43 y44 y45 y46 y47 y48 y49 y50 y51 y52 y53 y54 y55 y56 y57 y58 y59 y60 y61 y62 y63 y64 y65 y66 y67 y68 y69 y70 y71 y72 y73 y74 y75 y76 y77 y78 y79 y80 y81 y82 y83 y84 y85 y86 y87 y88 y89 y90 y91 y92 y93 y94 y95 y96 y97 y98 y99 y100 y101 y102 y103 y104 y105 y106 y107 y108 y109 y110 y111 y112 y113:Value} {Po:Ending→World→Prop} (hP:w.heap[P]?=some (.cells #[.bool (decide (a.num<0)),.slice A1 (Vx.len a.num.natAbs) c1,.slice B1 (Vx.len (below a.den)) d1,.bool (decide (b.num<0)),.slice A2 (Vx.len b.num.natAbs) c2,.slice B2 (Vx.len (below b.den)) d2,.bool (decide (r.num<0)),.slice A3 (Vx.len r.num.natAbs) c3,.slice B3 (Vx.len (below r.den)) d3] 39 (0,0))) (hp:AA' w (.agg #[.bool (decide (a.num<0)),.slice A1 (Vx.len a.num.natAbs) c1,.slice B1 (Vx.len (below a.den)) d1,.bool (decide (b.num<0)),.slice A2 (Vx.len b.num.natAbs) c2,.slice B2 (Vx.len (below b.den)) d2,.bool (decide (r.num<0)),.slice A3 (Vx.len r.num.natAbs) c3,.slice B3 (Vx.len (below r.den)) d3]) a b r) (ea:mkRat 1 2=a) (eb:mkRat 3 4=b) (er:0=r) (hf:w.cell? ⟨g,6,none⟩=some (.bool (decide (x.num<0)))∧w.cell? ⟨g,7,none⟩=some (.slice A4 (Vx.len x.num.natAbs) c4)∧w.cell? ⟨g,8,none⟩=some (.slice B4 (Vx.len (below x.den)) d4)∧w.cell? ⟨g,9,none⟩=some (.bool (decide (y.num<0)))∧w.cell? ⟨g,10,none⟩=some (.slice A5 (Vx.len y.num.natAbs) c5)∧w.cell? ⟨g,11,none⟩=some (.slice B5 (Vx.len (below y.den)) d5)) (hfb:Ao' w (.agg #[.bool (decide (x.num<0)),.slice A4 (Vx.len x.num.natAbs) c4,.slice B4 (Vx.len (below x.den)) d4,.bool (decide (y.num<0)),.slice A5 (Vx.len y.num.natAbs) c5,.slice B5 (Vx.len (below y.den)) d5]) x y) (hq:w.heap[bq]?=some (.cells #[.bool (decide (z.num<0)),.slice A6 (Vx.len z.num.natAbs) c6,.slice B6 (Vx.len (below z.den)) d6,.bool (decide (v.num<0)),.slice A7 (Vx.len v.num.natAbs) c7,.slice B7 (Vx.len (below v.den)) d7] 37 (0,0))) (hqb:Ao' w (.agg #[.bool (decide (z.num<0)),.slice A6 (Vx.len z.num.natAbs) c6,.slice B6 (Vx.len (below z.den)) d6,.bool (decide (v.num<0)),.slice A7 (Vx.len v.num.natAbs) c7,.slice B7 (Vx.len (below v.den)) d7]) z v) (ex:(6:Rat)=x) (ey:mkRat 15 2=y) (ez:mkRat 20 3=z) (ev:(8:Rat)=v) (hT:TabAt 0 Lib.deBruijn64tab w) (hPo:∀ w',Below w.heap.size w w'→Po (.returned (.bool true)) w') :
   (codeAt 5 Tryz.f5).wp Tryz.prog (bodyPost Tryz.prog Tryz.f5 Po) { tmps:=#[y0,.pointer (some ⟨P,0,none⟩),y2,.slice (some ⟨g,0,none⟩) 2 2,.int .i64 0,.int .i64 3,.int .i64 0,.pointer (some ⟨bq,0,none⟩),.int .i64 0,y9,y10,y11,y12,y13,y14,y15,y16,y17,y18,y19,y20,y21,y22,y23,y24,y25,y26,y27,y28,y29,y30,y31,y32,y33,y34,y35,y36,y37,y38,y39,y40,y41,y42,y43,y44,y45,y46,y47,y48,y49,y50,y51,y52,y53,y54,y55,y56,y57,y58,y59,y60,y61,y62,y63,y64,y65,y66,y67,y68,y69,y70,y71,y72,y73,y74,y75,y76,y77,y78,y79,y80,y81,y82,y83,y84,y85,y86,y87,y88,y89,y90,y91,y92,y93,y94,y95,y96,y97,y98,y99,y100,y101,y102,y103,y104,y105,y106,y107,y108,y109,y110,y111,y112,y113],defers:=[] } w:=by
 have k1:=hid (kq1 ex)
 have k2:=hid (kq2 ey)
 have k3:=hid (kq3 ez)
 have k4:=hid (kq4 ev)
 obtain ⟨f0,f1,f2,f3,f4,f5⟩:=hf
 have hgl:=bL _ _ f0
 replace ex:=hid ex
 replace ey:=hid ey
 replace ez:=hid ez
 replace ev:=hid ev
 replace ea:=hid ea
 replace eb:=hid eb
 replace er:=hid er
 replace hP:=hid hP
 replace hp:=hid hp
 replace hPo:=hid hPo
 replace hT:=hid hT
 replace hfb:=hid hfb
 replace hqb:=hid hqb
 replace hq:=hid hq
 show Code.wp _ (Code.seq _ _) _ _ _
 refine wp_seq_k ?_
 intro G hG
 replace hG:=hid hG
 have HX:=hid (Bm' hfb.out (nT k1.out.2 (by omega)))
 go_wp2_with fail
 refine (HX.out).mono ?_
 rintro e w1 ⟨v1,rfl,hv1,b1⟩
 obtain ⟨C1,j1,C2,j2,rfl,-,-⟩:=id hv1.opened
 replace hv1:=hid hv1
 replace b1:=hid b1
 clear HX
 have HX:=hid (Cr hv1.out k1.out.1 (nT k1.out.2 (by omega)) (Au' hT.out b1.out))
 go_wp2_with fail
 refine (HX.out).mono ?_
 rintro e w2 ⟨rfl,b2⟩
 replace b2:=hid b2
 clear HX
 have y0_2:=hid (bS b1.out b2.out)
 have F0:w2.cell? ⟨g,6,none⟩=some (.bool (decide (x.num<0))):=(y0_2.out.cell (p:=⟨g,6,none⟩) hgl).trans f0
 have F1:w2.cell? ⟨g,7,none⟩=some (.slice A4 (Vx.len x.num.natAbs) c4):=(y0_2.out.cell (p:=⟨g,7,none⟩) hgl).trans f1
 have F2:w2.cell? ⟨g,8,none⟩=some (.slice B4 (Vx.len (below x.den)) d4):=(y0_2.out.cell (p:=⟨g,8,none⟩) hgl).trans f2
 have F3:w2.cell? ⟨g,9,none⟩=some (.bool (decide (y.num<0))):=(y0_2.out.cell (p:=⟨g,9,none⟩) hgl).trans f3
 have F4:w2.cell? ⟨g,10,none⟩=some (.slice A5 (Vx.len y.num.natAbs) c5):=(y0_2.out.cell (p:=⟨g,10,none⟩) hgl).trans f4
 have F5:w2.cell? ⟨g,11,none⟩=some (.slice B5 (Vx.len (below y.den)) d5):=(y0_2.out.cell (p:=⟨g,11,none⟩) hgl).trans f5
 have HX:=hid (BJ' (hfb.out.keep y0_2.out) (nT k2.out.2 (by omega)))
 go_wp2_with fail
 refine (HX.out).mono ?_
 rintro e w3 ⟨v3,rfl,hv3,b3⟩
 obtain ⟨C3,j3,C4,j4,rfl,-,-⟩:=id hv3.opened
 replace hv3:=hid hv3
 replace b3:=hid b3
 clear HX
 clear F0 F1 F2 F3 F4 F5
 have y0_3:=hid (bS y0_2.out b3.out)
 have HX:=hid (Cr hv3.out k2.out.1 (nT k2.out.2 (by omega)) (Au' hT.out y0_3.out))
 go_wp2_with fail
 refine (HX.out).mono ?_
 rintro e w4 ⟨rfl,b4⟩
 replace b4:=hid b4
 clear HX
 have y0_4:=hid (bS y0_3.out b4.out)
 obtain ⟨z_q_0,z_q_1,z_q_2,z_q_3,z_q_4,z_q_5⟩:=Aj (Ab' hq.out y0_4.out)
 have HX:=hid (Bm' (hqb.out.keep y0_4.out) (nT k3.out.2 (by omega)))
 go_wp2_with fail
 refine (HX.out).mono ?_
 rintro e w5 ⟨v5,rfl,hv5,b5⟩
 obtain ⟨C5,j5,C6,j6,rfl,-,-⟩:=id hv5.opened
 replace hv5:=hid hv5
 replace b5:=hid b5
 clear HX
 clear z_q_0 z_q_1 z_q_2 z_q_3 z_q_4 z_q_5
 have y0_5:=hid (bS y0_4.out b5.out)
 have HX:=hid (Cr hv5.out k3.out.1 (nT k3.out.2 (by omega)) (Au' hT.out y0_5.out))
 go_wp2_with fail
 refine (HX.out).mono ?_
 rintro e w6 ⟨rfl,b6⟩
 replace b6:=hid b6
 clear HX
 have y0_6:=hid (bS y0_5.out b6.out)
 obtain ⟨z_q_0,z_q_1,z_q_2,z_q_3,z_q_4,z_q_5⟩:=Aj (Ab' hq.out y0_6.out)
 have HX:=hid (BJ' (hqb.out.keep y0_6.out) (nT k4.out.2 (by omega)))
 go_wp2_with fail
 refine (HX.out).mono ?_
 rintro e w7 ⟨v7,rfl,hv7,b7⟩
 obtain ⟨C7,j7,C8,j8,rfl,-,-⟩:=id hv7.opened
 replace hv7:=hid hv7
 replace b7:=hid b7
 clear HX
 clear z_q_0 z_q_1 z_q_2 z_q_3 z_q_4 z_q_5
 have y0_7:=hid (bS y0_6.out b7.out)
 have HX:=hid (Cr hv7.out k4.out.1 (nT k4.out.2 (by omega)) (Au' hT.out y0_7.out))
 go_wp2_with fail
 refine (HX.out).mono ?_
 rintro e w8 ⟨rfl,b8⟩
 replace b8:=hid b8
 clear HX
 have y0_8:=hid (bS y0_7.out b8.out)
 have FB:=hid y0_8.out
 go_wp2_with fail
 refine hG.out _ _ ?_
 exact Gx' (Ab' hP.out y0_8.out) (hp.out.keep y0_8.out) ea.out eb.out er.out (fun w' h=>hPo.out w' (Ae' FB.out h))
end Go.Proofs.YtflopjfnppolgaaGreatDoor.Rf
