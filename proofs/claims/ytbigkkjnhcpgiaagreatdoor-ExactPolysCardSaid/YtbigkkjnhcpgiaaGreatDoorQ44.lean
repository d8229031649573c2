/-
  Contracts of the functions that the law calls, for every input (Pp Pq).
-/
import Derived.Test.YtbigkkjnhcpgiaaGreatDoorQ00
import Derived.Test.YtbigkkjnhcpgiaaGreatDoorQ43
import Derived.Test.YtbigkkjnhcpgiaaGreatDoorQ37
import Derived.Test.YtbigkkjnhcpgiaaGreatDoorQ38
import Derived.Test.YtbigkkjnhcpgiaaGreatDoorQ41
import Derived.Deep.AppendLies
import Derived.Test.YtbigkkjnhcpgiaaGreatDoorQ21
import Derived.Test.YtbigkkjnhcpgiaaGreatDoorQ22
set_option linter.all false
set_option maxRecDepth 100000
set_option maxHeartbeats 40000000
namespace Go.Proofs.YtbigkkjnhcpgiaaGreatDoor.Rf
open Lib (hid)
open Go.RowKit
open Rx
open Vx (Aa' Al' Am)
open List renaming getElem?_toArray → lg, getElem?_cons_zero → lz, getElem?_cons_succ → ls, setIfInBounds_toArray → lt, set_cons_zero → ly, set_cons_succ → lu
def accB (f:Nat→Rat × Rat):Nat→Rat × Rat
  | 0=>(0,0)
  | k+1=>Aw' f k
theorem Gz {a b:Rat} {n:Nat} {l:List Rat} (hab:a≤b) (k:Nat):(Aw' (As' a b n l) k).1≤(Aw' (As' a b n l) k).2 :=
 by
   have h:=Gw (As' a b n l) k 0 (Nat.zero_le _)
   exact Rat.le_trans h.1 (Rat.le_trans (ED' hab n l 0) h.2)
theorem IB' {w:World} {vx vy:Value} {a b c d l h:Rat} (hab:a≤b) (hcd:c≤d) (el:leastOf a [b,c,d]=l) (eh:greatestOf a [b,c,d]=h) (hx:Aw w vx a b) (hy:Aw w vy c d) (sa:Aa' a≤4000000) (sb:Aa' b≤4000000) (sc:Aa' c≤4000000) (sd:Aa' d≤4000000) :
   Calls Tryz.prog 43 #[vx,vy] w (Cf' w l h):=by
 exact Fl ((EF' hab hcd).1.trans el) ((EF' hab hcd).2.trans eh) hx hy (nT sa (by omega)) (nT sb (by omega)) (nT sc (by omega)) (nT sd (by omega))
theorem EG {x:Rat} {l:List Rat} {N:Nat} (h:∀ y∈x::l,Aa' y≤N):Aa' (leastOf x l)≤N∧Aa' (greatestOf x l)≤N :=
 ⟨Hq (h x (by simp)) (fun y hy=>h y (by simp [hy])),Fq (h x (by simp)) (fun y hy=>h y (by simp [hy]))⟩
theorem IC {a b:Rat} {n i:Nat} (ha:Aa' a≤100) (hb:Aa' b≤100) (hn:n≤1000) (hi:i≤1000):Aa' (Az a b n i)≤1000:=by
 unfold Az
 have e1:Aa' ((n:Nat):Rat)≤2:=by have:=Go.Proofs.YtbigkkjnhcpgiaaGreatDoor.Bn (i:=n) hn;rwa [Rat.intCast_natCast] at this
 have e2:Aa' ((i:Nat):Rat)≤2:=by have:=Go.Proofs.YtbigkkjnhcpgiaaGreatDoor.Bn (i:=i) hi;rwa [Rat.intCast_natCast] at this
 have k1:=Vx.CN b a
 have k2:=Vx.Cc' (b - a) ((n:Nat):Rat)
 have k3:=Vx.AG ((b - a) / ((n:Nat):Rat)) ((i:Nat):Rat)
 have k4:=Vx.Ct' a ((b - a) / ((n:Nat):Rat)*((i:Nat):Rat))
 omega
def RAt (w2:World) (B:Nat) (q:Rat × Rat) (W:World):Prop :=
  (∃ s1 A1 n1 c1 A2 n2 c2 s2 A3 n3 c3 A4 n4 c4,W.heap[B]?=some (.cells #[.bool s1,.slice A1 n1 c1,.slice A2 n2 c2,.bool s2,.slice A3 n3 c3,.slice A4 n4 c4] 41 (0,0))∧Aw W (.agg #[.bool s1,.slice A1 n1 c1,.slice A2 n2 c2,.bool s2,.slice A3 n3 c3,.slice A4 n4 c4]) q.1 q.2)∧Below w2.heap.size w2 W
def RAk (w2:World) (B:Nat) (f:Nat→Rat × Rat) (k:Nat) (W:World):Prop :=
  (∃ s1 A1 n1 c1 A2 n2 c2 s2 A3 n3 c3 A4 n4 c4,W.heap[B]?=some (.cells #[.bool s1,.slice A1 n1 c1,.slice A2 n2 c2,.bool s2,.slice A3 n3 c3,.slice A4 n4 c4] 41 (0,0))∧(0<k→Aw W (.agg #[.bool s1,.slice A1 n1 c1,.slice A2 n2 c2,.bool s2,.slice A3 n3 c3,.slice A4 n4 c4]) (accB f k).1 (accB f k).2))∧Below w2.heap.size w2 W
theorem Hy' {p:Rat × Rat} {l:List Rat} {i:Nat} {c:Rat} (h:l[i]?=some c):AV p (l.drop i)=Bs' (AV p (l.drop (i+1))) p c:=by
 have hi:=(List.getElem?_eq_some_iff.1 h).1
 rw [List.drop_eq_getElem_cons hi]
 have:l[i]=c:=(List.getElem?_eq_some_iff.1 h).2
 rw [this]
 rfl
theorem EN' {p:Rat × Rat} {l:List Rat} (h3:Aa' p.1≤1000) (h4:Aa' p.2≤1000) (hs:∀ y∈l,Aa' y≤1000) (hl:l.length≤8) (i:Nat):Aa' (AV p (l.drop i)).1≤17000∧Aa' (AV p (l.drop i)).2≤17000:=by
 have:=Dp (M:=1000) h3 h4 (l.drop i) (fun y hy=>hs y (List.mem_of_mem_drop hy))
 have h2:=Nat.mul_le_mul_right (1000+1000+1) (show (l.drop i).length≤8 by rw [List.length_drop];omega)
 omega
theorem Hz' {w:World} {v:Value} {a b x y:Rat} {l:List Rat} {b1_ o1_ n cap m:Nat} (hl:Bx' w b1_ o1_ l) (hb:Aw w v a b) (eL:l.length=n) (hab:a≤b) (ex:(Bl' a b m l).1=x) (ey:(Bl' a b m l).2=y) (hn:n≤8) (hm1:1≤m) (hm2:m≤12) (sa:Aa' a≤100) (sb:Aa' b≤100) (hs:∀ y∈l,Aa' y≤1000) :
   Calls Tryz.prog 12 #[.slice (some ⟨b1_,o1_,none⟩) n cap,v,.int .i64 ((m:Nat):Int)] w (Cf' w x y):=by
 have hn8:((n:Nat):Int)≤8:=by omega
 have hm12:((m:Nat):Int)≤12:=by omega
 have hwn:IntKind.i64.wrap (((n:Nat):Int) - 1)=((n:Nat):Int) - 1:=by
   unfold IntKind.wrap
   simp [IntKind.bits,IntKind.signed]
   omega
 have HCS:=hid (fun i (hi:i≤20)=>IC (n:=m) sa sb (show m≤1000 by omega) (show i≤1000 by omega))
 have HPS:=hid (fun i (hi:i≤19) (j:Nat)=>EN' (p:=(Az a b m i,Az a b m (i+1))) (HCS.out i (by omega)) (HCS.out (i+1) (by omega)) hs (show l.length≤8 by omega) j)
 have HPT:=hid (fun k (hk:k≤19)=>Da (f:=As' a b m l) (N:=17000) (k:=k) (fun i hi=>HPS.out i (by omega) 0))
 obtain ⟨P1,r1,P2,r2,P3,r3,P4,r4,rfl,-,-⟩:=id hb.opened
 replace hb:=hid hb
 replace hab:=hid hab
 replace hs:=hid hs
 replace hl:=hid hl
 replace eL:=hid eL
 replace ex:=hid ex
 replace ey:=hid ey
 obtain ⟨w1,hw1⟩:=eX ((w.alloc (.cells #[.bool (decide (a.num<0)),.slice P1 (len a.num.natAbs) r1,.slice P2 (len a.den) r2,.bool (decide (b.num<0)),.slice P3 (len b.num.natAbs) r3,.slice P4 (len b.den) r4] 41)).alloc (.cells #[.bool false,.slice none 0 0,.slice none 0 0,.bool false,.slice none 0 0,.slice none 0 0] 41))
 obtain ⟨b1,g1,g2⟩:=AA' hw1
 replace b1:=hid b1
 replace g2:=hid g2
 obtain ⟨z0,z1,z2,z3,z4,z5⟩:=Ae' g1
 clear g1
 go_enter Tryz.func12,Tryz.ntmps12
 go_upto_region 1 with fail
 rw [←hw1]
 clear hw1
 have HX:=hid (D9' (n:=m) (hb.out.keep b1.out) hm1 (show m≤256 by omega) (show Aa' a≤20000 by omega) (show Aa' b≤20000 by omega))
 go_wp2_with fail
 refine (HX.out).mono ?_
 rintro e w2 ⟨g,gc,rfl,hP,b2⟩
 replace hP:=hid hP
 replace b2:=hid b2
 clear HX z0 z1 z2 z3 z4 z5 sa sb
 go_upto_region 3 with fail
 obtain ⟨w3,hw3⟩:=eX (w2.alloc (.cells #[.bool false,.slice none 0 0,.slice none 0 0,.bool false,.slice none 0 0,.slice none 0 0] 41))
 have b3:=hid (AC hw3)
 have L3:=AI' hw3
 rw [←hw3]
 clear hw3
 obtain ⟨ba,hba⟩:=eY w2.heap.size
 rw [hba] at L3
 have hbal:w2.heap.size≤ba:=Nat.le_of_eq hba
 have hba2:w.heap.size+1<ba:=by rw [←hba];exact at_lt (Ad' g2.out b2.out)
 have HE:Hid (RAk w2 ba (As' a b m l) 0 w3):=hid ⟨⟨_,_,_,_,_,_,_,_,_,_,_,_,_,_,L3,fun h=>absurd h (Nat.lt_irrefl 0)⟩,b3.out⟩
 rw [hba]
 replace hba:=hid hba
 clear L3 b3 hb
 go_wp2_with fail
 go_loopw [9] (fun iv wr=>∃ k:Nat,k≤m∧iv=.int .i64 ((k:Nat):Int)∧Hid (RAk w2 ba (As' a b m l) k wr)) (fun iv _=>m - (intOf iv).toNat)
 case atStart=>exact ⟨0,Nat.zero_le _,rfl,HE⟩
 case round =>
   obtain ⟨k,hk,rfl,hrel⟩:=hrel
   clear HE
   rcases Nat.lt_or_ge k m with hkm | hkm
   · have hin:decide (k<m)=true:=dT_ hkm
     have hBW:=hid hrel.out.2
     obtain ⟨o,eo⟩:=eY ((((0:Int)):Rat))
     have eo2:o=0:=by rw [←eo];rfl
     replace eo:=hid eo
     replace eo2:=hid eo2
     have HX:=hid (Dw (w:=wr) eo.out (by omega) (by omega))
     go_wp2_with fail
     refine (HX.out).mono ?_
     rintro e w91 ⟨v91,rfl,hv91,b91⟩
     obtain ⟨C91,j91,C92,j92,rfl,-,-⟩:=id hv91.opened
     replace hv91:=hid hv91
     replace b91:=hid b91
     clear HX
     have HX:=hid (C6' hv91.out)
     go_wp2_with fail
     refine (HX.out).mono ?_
     rintro e w92 ⟨v92,rfl,hv92,b92⟩
     obtain ⟨C93,j93,C94,j94,C95,j95,C96,j96,rfl,-,-,-,-⟩:=id hv92.opened
     replace hv92:=hid hv92
     replace b92:=hid b92
     clear HX
     go_upto_region 7 with fail
     obtain ⟨w93,hw93⟩:=eX (w92.alloc (.cells #[.bool (decide (o.num<0)),.slice C93 (len o.num.natAbs) j93,.slice C94 (len o.den) j94,.bool (decide (o.num<0)),.slice C95 (len o.num.natAbs) j95,.slice C96 (len o.den) j96] 41))
     have b93:=hid (AC hw93)
     have L93:=hid (AI' hw93)
     rw [←hw93]
     clear hw93
     obtain ⟨⟨s1,A1,n1,c1,A2,n2,c2,s2,A3,n3,c3,A4,n4,c4,ga,hacc⟩,-⟩:=hrel.out
     clear hrel
     have hB92:=hid (chain hBW.out (bS b91.out b92.out))
     have ga2:=hid (Ad' ga (bS b91.out b92.out))
     have hacc2:=hid (fun h=>(hacc h).keep (bS b91.out b92.out))
     obtain ⟨bv,hbv⟩:=eY w92.heap.size
     have LV:=L93.out
     rw [hbv] at LV
     have HE2:Hid (RAt w92 bv (AV (Az a b m k,Az a b m (k+1)) (l.drop n)) w93):=hid ⟨⟨_,_,_,_,_,_,_,_,_,_,_,_,_,_,LV,by rw [←eL.out,List.drop_length];have:=(hv92.out.keep b93.out);rw [eo2.out] at this;rw [eo2.out];exact this⟩,b93.out⟩
     have hbvl:ba<bv:=by rw [←hbv];exact at_lt ga2.out
     have hvle:w92.heap.size≤bv:=Nat.le_of_eq hbv
     rw [hbv]
     replace hbv:=hid hbv
     clear ga hacc LV b91 b92 b93 L93 hv92 hv91 hBW
     go_wp2_with fail
     go_loopw [11] (fun jv wr=>∃ j:Nat,j≤n∧jv=.int .i64 (((j:Nat):Int) - 1)∧Hid (RAt w92 bv (AV (Az a b m k,Az a b m (k+1)) (l.drop j)) wr)) (fun jv _=>(intOf jv+1).toNat)
     case atStart=>exact ⟨n,nL _,(by first | rfl | go_num | simp [hwn]),HE2⟩
     case round =>
       obtain ⟨j,hj,rfl,hrel⟩:=hrel
       clear HE2
       rcases j with _ | i
       rotate_left
       · rw [show (((i+1:Nat)):Int) - 1=((i:Nat):Int) by omega]
         have hge:decide (((i:Nat):Int)≥0)=true:=dT_ (by omega)
         have hge2:(0:Int)≤((i:Nat):Int):=by omega
         have hi8:((i:Nat):Int)≤8:=by omega
         have hin3:i<n:=hj
         have hwi:IntKind.i64.wrap (((i:Nat):Int) - 1)=((i:Nat):Int) - 1:=by
           unfold IntKind.wrap
           simp [IntKind.bits,IntKind.signed]
           omega
         obtain ⟨⟨t1,B1,d1,e1,B2,d2,e2,t2,B3,d3,e3,B4,d4,e4,gv,hv⟩,hbW⟩:=hrel.out
         clear hrel
         obtain ⟨c,hc⟩:∃ q,l[i]?=some q:=⟨l[i]'(by rw [eL.out];omega),by simp⟩
         obtain ⟨t5,D1,f1,h1,D2,f2,h2,y0,y1,y2,hcq⟩:=(hl.out.keep (bS b1.out b2.out)).keep (chain hB92.out hbW) i c hc
         obtain ⟨t6,E1,u1,x1,E2,u2,x2,t7,E3,u3,x3,E4,u4,x4,z0,z1,z2,z3,z4,z5,hpq⟩:=hP.out.keep (chain hB92.out hbW) k _ (EF hkm)
         have hst:=Hy' (p:=(Az a b m k,Az a b m (k+1))) hc
         have tv:=HPS.out k (by omega) (i+1)
         have tc:=hs.out c (List.mem_of_getElem? hc)
         have tx:=HCS.out k (by omega)
         have ty:=HCS.out (k+1) (by omega)
         obtain ⟨p,hp⟩:=eY ((AV (Az a b m k,Az a b m (k+1)) (l.drop (i+1))).1)
         obtain ⟨q,hq⟩:=eY ((AV (Az a b m k,Az a b m (k+1)) (l.drop (i+1))).2)
         obtain ⟨x,hx⟩:=eY (Az a b m k)
         obtain ⟨y,hy⟩:=eY (Az a b m (k+1))
         rw [hp,hq] at hv tv
         rw [hx] at tx
         rw [hy] at ty
         have hpq2:Aw wr (.agg #[.bool t6,.slice E1 u1 x1,.slice E2 u2 x2,.bool t7,.slice E3 u3 x3,.slice E4 u4 x4]) x y:=by rw [←hx,←hy];exact hpq
         obtain ⟨m1,em1⟩:=eY (leastOf (p*x) [p*y,q*x,q*y])
         obtain ⟨m2,em2⟩:=eY (greatestOf (p*x) [p*y,q*x,q*y])
         obtain ⟨p2,ep2⟩:=eY (m1+c)
         obtain ⟨q2,eq2⟩:=eY (m2+c)
         have hst2:AV (Az a b m k,Az a b m (k+1)) (l.drop i)=(p2,q2):=by
           rw [hst]
           unfold Bs'
           simp only
           rw [hp,hq,hx,hy,em1,em2,ep2,eq2]
         have k1:=Ea' (N:=40000) (nT (Vx.AG p x) (by omega)) (nT (Vx.AG p y) (by omega)) (nT (Vx.AG q x) (by omega)) (nT (Vx.AG q y) (by omega))
         have k2:=(EG k1).1
         have k3:=(EG k1).2
         rw [em1] at k2
         rw [em2] at k3
         have o1:=hid (show Aa' p≤4000000 by omega)
         have o2:=hid (show Aa' q≤4000000 by omega)
         have o3:=hid (show Aa' x≤4000000 by omega)
         have o4:=hid (show Aa' y≤4000000 by omega)
         have o5:=hid (show Aa' m1≤16777216 by omega)
         have o6:=hid (show Aa' m2≤16777216 by omega)
         have o7:=hid (show Aa' c≤16777216 by omega)
         clear k1 k2 k3 hst tv tx ty tc hpq hp hq hx hy
         obtain ⟨uc,huc⟩:=eY (o1_+i*3)
         rw [huc] at y0 y1 y2
         obtain ⟨ul,hul⟩:=eY (k*6)
         rw [hul] at z0 z1 z2 z3 z4 z5
         have hBv:bv<wr.heap.size:=at_lt gv
         have hBc:b1_<wr.heap.size:=bL _ _ y0
         have hBp:g<wr.heap.size:=bL _ _ z0
         obtain ⟨j0,j1,j2,j3,j4,j5⟩:=Ae' gv
         replace gv:=hid gv
         replace hv:=hid hv
         replace hcq:=hid hcq
         replace hpq2:=hid hpq2
         replace hbW:=hid hbW
         replace hc:=hid hc
         replace hst2:=hid hst2
         replace em1:=hid em1
         replace em2:=hid em2
         replace ep2:=hid ep2
         replace eq2:=hid eq2
         go_upto_region 10 with fail
         go_wp2_with fail
         refine Ci' (s:=12) (S:=(fun w'=>(w'.cell? ⟨bv,0,none⟩=wr.cell? ⟨bv,0,none⟩∧w'.cell? ⟨bv,1,none⟩=wr.cell? ⟨bv,1,none⟩∧w'.cell? ⟨bv,2,none⟩=wr.cell? ⟨bv,2,none⟩∧w'.cell? ⟨bv,3,none⟩=wr.cell? ⟨bv,3,none⟩∧w'.cell? ⟨bv,4,none⟩=wr.cell? ⟨bv,4,none⟩∧w'.cell? ⟨bv,5,none⟩=wr.cell? ⟨bv,5,none⟩∧w'.cell? ⟨g,ul,none⟩=wr.cell? ⟨g,ul,none⟩∧w'.cell? ⟨g,ul+1,none⟩=wr.cell? ⟨g,ul+1,none⟩∧w'.cell? ⟨g,ul+2,none⟩=wr.cell? ⟨g,ul+2,none⟩∧w'.cell? ⟨g,ul+3,none⟩=wr.cell? ⟨g,ul+3,none⟩∧w'.cell? ⟨g,ul+4,none⟩=wr.cell? ⟨g,ul+4,none⟩∧w'.cell? ⟨g,ul+5,none⟩=wr.cell? ⟨g,ul+5,none⟩∧w'.cell? ⟨b1_,uc,none⟩=wr.cell? ⟨b1_,uc,none⟩∧w'.cell? ⟨b1_,uc+1,none⟩=wr.cell? ⟨b1_,uc+1,none⟩∧w'.cell? ⟨b1_,uc+2,none⟩=wr.cell? ⟨b1_,uc+2,none⟩))) (by kernel_rfl) (by rfl) (by rfl) (by kernel_rfl) ?_
         simp only [Cg',lt,ly,lu]
         have hHeld:(fun w'=>(w'.cell? ⟨bv,0,none⟩=wr.cell? ⟨bv,0,none⟩∧w'.cell? ⟨bv,1,none⟩=wr.cell? ⟨bv,1,none⟩∧w'.cell? ⟨bv,2,none⟩=wr.cell? ⟨bv,2,none⟩∧w'.cell? ⟨bv,3,none⟩=wr.cell? ⟨bv,3,none⟩∧w'.cell? ⟨bv,4,none⟩=wr.cell? ⟨bv,4,none⟩∧w'.cell? ⟨bv,5,none⟩=wr.cell? ⟨bv,5,none⟩∧w'.cell? ⟨g,ul,none⟩=wr.cell? ⟨g,ul,none⟩∧w'.cell? ⟨g,ul+1,none⟩=wr.cell? ⟨g,ul+1,none⟩∧w'.cell? ⟨g,ul+2,none⟩=wr.cell? ⟨g,ul+2,none⟩∧w'.cell? ⟨g,ul+3,none⟩=wr.cell? ⟨g,ul+3,none⟩∧w'.cell? ⟨g,ul+4,none⟩=wr.cell? ⟨g,ul+4,none⟩∧w'.cell? ⟨g,ul+5,none⟩=wr.cell? ⟨g,ul+5,none⟩∧w'.cell? ⟨b1_,uc,none⟩=wr.cell? ⟨b1_,uc,none⟩∧w'.cell? ⟨b1_,uc+1,none⟩=wr.cell? ⟨b1_,uc+1,none⟩∧w'.cell? ⟨b1_,uc+2,none⟩=wr.cell? ⟨b1_,uc+2,none⟩)) wr:=⟨rfl,rfl,rfl,rfl,rfl,rfl,rfl,rfl,rfl,rfl,rfl,rfl,rfl,rfl,rfl⟩
         obtain ⟨w191,hw191⟩:=eX wr.drew
         have b191:Hid (Below wr.heap.size wr w191):=hid (by rw [hw191];exact ⟨rfl,rfl,rfl,nL _,fun _ _=>rfl⟩)
         replace hHeld:(fun w'=>(w'.cell? ⟨bv,0,none⟩=wr.cell? ⟨bv,0,none⟩∧w'.cell? ⟨bv,1,none⟩=wr.cell? ⟨bv,1,none⟩∧w'.cell? ⟨bv,2,none⟩=wr.cell? ⟨bv,2,none⟩∧w'.cell? ⟨bv,3,none⟩=wr.cell? ⟨bv,3,none⟩∧w'.cell? ⟨bv,4,none⟩=wr.cell? ⟨bv,4,none⟩∧w'.cell? ⟨bv,5,none⟩=wr.cell? ⟨bv,5,none⟩∧w'.cell? ⟨g,ul,none⟩=wr.cell? ⟨g,ul,none⟩∧w'.cell? ⟨g,ul+1,none⟩=wr.cell? ⟨g,ul+1,none⟩∧w'.cell? ⟨g,ul+2,none⟩=wr.cell? ⟨g,ul+2,none⟩∧w'.cell? ⟨g,ul+3,none⟩=wr.cell? ⟨g,ul+3,none⟩∧w'.cell? ⟨g,ul+4,none⟩=wr.cell? ⟨g,ul+4,none⟩∧w'.cell? ⟨g,ul+5,none⟩=wr.cell? ⟨g,ul+5,none⟩∧w'.cell? ⟨b1_,uc,none⟩=wr.cell? ⟨b1_,uc,none⟩∧w'.cell? ⟨b1_,uc+1,none⟩=wr.cell? ⟨b1_,uc+1,none⟩∧w'.cell? ⟨b1_,uc+2,none⟩=wr.cell? ⟨b1_,uc+2,none⟩)) w191:=by rw [hw191];exact hHeld
         rw [←hw191]
         clear hw191
         refine tk (i:=0) (h:=?_)
         try simp only [Act.put,lt,ly,lu]
         refine tk (i:=1) (h:=?_)
         try simp only [Act.put,lt,ly,lu]
         refine tk (i:=2) (h:=?_)
         try simp only [Act.put,lt,ly,lu]
         refine tk (i:=3) (h:=?_)
         try simp only [Act.put,lt,ly,lu]
         refine tk (i:=4) (h:=?_)
         try simp only [Act.put,lt,ly,lu]
         refine tk (i:=6) (h:=?_)
         try simp only [Act.put,lt,ly,lu]
         refine tk (i:=7) (h:=?_)
         try simp only [Act.put,lt,ly,lu]
         refine tk (i:=8) (h:=?_)
         try simp only [Act.put,lt,ly,lu]
         refine tk (i:=9) (h:=?_)
         try simp only [Act.put,lt,ly,lu]
         refine rd (i:=5) (h:=fun K hK=>?_);go_simp;go_at_call 42
         refine (FI' em1.out em2.out (hv.out.keep b191.out) (hpq2.out.keep b191.out) o1.out o2.out o3.out o4.out).mono ?_
         rintro e w192 ⟨v192,rfl,hv192,b192⟩
         obtain ⟨C191,j191,C192,j192,C193,j193,C194,j194,rfl,-,-,-,-⟩:=id hv192.opened
         replace hv192:=hid hv192
         replace b192:=hid b192
         have y190_192:=hid (bS b191.out b192.out)
         have hS:=y190_192.out
         clear hHeld
         refine hK.out _ _ ?_ (fun hHeld=>?_)
         · (try dsimp only)
           exact ⟨hS.cell (p:=⟨bv,0,none⟩) hBv,hS.cell (p:=⟨bv,1,none⟩) hBv,hS.cell (p:=⟨bv,2,none⟩) hBv,hS.cell (p:=⟨bv,3,none⟩) hBv,hS.cell (p:=⟨bv,4,none⟩) hBv,hS.cell (p:=⟨bv,5,none⟩) hBv,hS.cell (p:=⟨g,ul,none⟩) hBp,hS.cell (p:=⟨g,ul+1,none⟩) hBp,hS.cell (p:=⟨g,ul+2,none⟩) hBp,hS.cell (p:=⟨g,ul+3,none⟩) hBp,hS.cell (p:=⟨g,ul+4,none⟩) hBp,hS.cell (p:=⟨g,ul+5,none⟩) hBp,hS.cell (p:=⟨b1_,uc,none⟩) hBc,hS.cell (p:=⟨b1_,uc+1,none⟩) hBc,hS.cell (p:=⟨b1_,uc+2,none⟩) hBc⟩
         clear hK K hS;try simp only [Act.put,lt,ly,lu]
         refine rd (i:=10) (h:=fun K hK=>?_);go_simp;go_at_call 40
         refine (C6' (hcq.out.keep y190_192.out)).mono ?_
         rintro e w193 ⟨v193,rfl,hv193,b193⟩
         obtain ⟨C195,j195,C196,j196,C197,j197,C198,j198,rfl,-,-,-,-⟩:=id hv193.opened
         replace hv193:=hid hv193
         replace b193:=hid b193
         have y190_193:=hid (bS y190_192.out b193.out)
         have hS:=y190_193.out
         clear hHeld
         refine hK.out _ _ ?_ (fun hHeld=>?_)
         · (try dsimp only)
           exact ⟨hS.cell (p:=⟨bv,0,none⟩) hBv,hS.cell (p:=⟨bv,1,none⟩) hBv,hS.cell (p:=⟨bv,2,none⟩) hBv,hS.cell (p:=⟨bv,3,none⟩) hBv,hS.cell (p:=⟨bv,4,none⟩) hBv,hS.cell (p:=⟨bv,5,none⟩) hBv,hS.cell (p:=⟨g,ul,none⟩) hBp,hS.cell (p:=⟨g,ul+1,none⟩) hBp,hS.cell (p:=⟨g,ul+2,none⟩) hBp,hS.cell (p:=⟨g,ul+3,none⟩) hBp,hS.cell (p:=⟨g,ul+4,none⟩) hBp,hS.cell (p:=⟨g,ul+5,none⟩) hBp,hS.cell (p:=⟨b1_,uc,none⟩) hBc,hS.cell (p:=⟨b1_,uc+1,none⟩) hBc,hS.cell (p:=⟨b1_,uc+2,none⟩) hBc⟩
         clear hK K hS;try simp only [Act.put,lt,ly,lu]
         refine rd (i:=11) (h:=fun K hK=>?_);go_simp;go_at_call 41
         refine (FG ep2.out eq2.out (hv192.out.keep b193.out) hv193.out o5.out o6.out o7.out o7.out).mono ?_
         rintro e w194 ⟨v194,rfl,hv194,b194⟩
         obtain ⟨C199,j199,C200,j200,C201,j201,C202,j202,rfl,-,-,-,-⟩:=id hv194.opened
         replace hv194:=hid hv194
         replace b194:=hid b194
         have y190_194:=hid (bS y190_193.out b194.out)
         have hS:=y190_194.out
         clear hHeld
         refine hK.out _ _ ?_ (fun hHeld=>?_)
         · (try dsimp only)
           exact ⟨hS.cell (p:=⟨bv,0,none⟩) hBv,hS.cell (p:=⟨bv,1,none⟩) hBv,hS.cell (p:=⟨bv,2,none⟩) hBv,hS.cell (p:=⟨bv,3,none⟩) hBv,hS.cell (p:=⟨bv,4,none⟩) hBv,hS.cell (p:=⟨bv,5,none⟩) hBv,hS.cell (p:=⟨g,ul,none⟩) hBp,hS.cell (p:=⟨g,ul+1,none⟩) hBp,hS.cell (p:=⟨g,ul+2,none⟩) hBp,hS.cell (p:=⟨g,ul+3,none⟩) hBp,hS.cell (p:=⟨g,ul+4,none⟩) hBp,hS.cell (p:=⟨g,ul+5,none⟩) hBp,hS.cell (p:=⟨b1_,uc,none⟩) hBc,hS.cell (p:=⟨b1_,uc+1,none⟩) hBc,hS.cell (p:=⟨b1_,uc+2,none⟩) hBc⟩
         clear hK K hS;try simp only [Act.put,lt,ly,lu]
         refine tk (i:=12) (h:=?_)
         try simp only [Act.put,lt,ly,lu]
         refine wpAnyH_done (by kernel_rfl) ?_ _
         clear hHeld j0 j1 j2 j3 j4 j5 y0 y1 y2 z0 z1 z2 z3 z4 z5
         have DB:=Ad' gv.out y190_194.out
         have k0:=cR _ _ 0 _ _ _ DB
         have F0:=fR w194 bv 0 _ _ DB
         have k1:=cR _ _ 1 _ _ _ DB
         have F1:=fR w194 bv 1 _ _ DB
         have k2:=cR _ _ 2 _ _ _ DB
         have F2:=fR w194 bv 2 _ _ DB
         have k3:=cR _ _ 3 _ _ _ DB
         have F3:=fR w194 bv 3 _ _ DB
         have k4:=cR _ _ 4 _ _ _ DB
         have F4:=fR w194 bv 4 _ _ DB
         have k5:=cR _ _ 5 _ _ _ DB
         have F5:=fR w194 bv 5 _ _ DB
         simp only [lg,lz,ls] at k0 k1 k2 k3 k4 k5
         obtain ⟨ue,hw⟩:=eX (((((((w194.setCell ⟨bv,0,none⟩ (.bool (decide (p2.num<0)))).setCell ⟨bv,1,none⟩ (.slice C199 (len p2.num.natAbs) j199)).setCell ⟨bv,2,none⟩ (.slice C200 (len p2.den) j200)).setCell ⟨bv,3,none⟩ (.bool (decide (q2.num<0)))).setCell ⟨bv,4,none⟩ (.slice C201 (len q2.num.natAbs) j201)).setCell ⟨bv,5,none⟩ (.slice C202 (len q2.den) j202)))
         obtain ⟨E,OT,LV,BL⟩:=AG' DB hw
         have FIN:Hid (RAt w92 bv (AV (Az a b m k,Az a b m (k+1)) (l.drop i)) ue):=hid ⟨⟨_,_,_,_,_,_,_,_,_,_,_,_,_,_,E,by rw [hst2.out];exact LV.rbox hv194.out⟩,BL _ _ hvle (chain hbW.out y190_194.out)⟩
         refine CP' (by rfl) (by rfl) ?_
         clear DB E OT LV BL
         go_simp
         rw [←hw]
         clear hw k0 k1 k2 k3 k4 k5 F0 F1 F2 F3 F4 F5
         go_wp2_with fail
         go_roundw
         case rel=>exact ⟨i,by omega,by first | go_num | simp [hwi],FIN⟩
         case measure=>simp [intOf] <;> omega
       · have hlt0:decide ((((0:Nat):Int) - 1)≥0)=false:=by decide
         obtain ⟨⟨t1,B1,d1,e1,B2,d2,e2,t2,B3,d3,e3,B4,d4,e4,gv,hv⟩,hbW⟩:=hrel.out
         clear hrel
         rw [List.drop_zero] at hv
         have hsv:=HPS.out k (by omega) 0
         rw [List.drop_zero] at hsv
         obtain ⟨ga,hacc⟩:=And.intro (Ad' ga2.out hbW) (fun h=>(hacc2.out h).keep hbW)
         have hBW2:=chain hB92.out hbW
         rcases k with _ | h
         · obtain ⟨j0,j1,j2,j3,j4,j5⟩:=Ae' gv
           have q0:=cR _ _ 0 _ _ _ ga
           have F0:=fR wr ba 0 _ _ ga
           have q1:=cR _ _ 1 _ _ _ ga
           have F1:=fR wr ba 1 _ _ ga
           have q2:=cR _ _ 2 _ _ _ ga
           have F2:=fR wr ba 2 _ _ ga
           have q3:=cR _ _ 3 _ _ _ ga
           have F3:=fR wr ba 3 _ _ ga
           have q4:=cR _ _ 4 _ _ _ ga
           have F4:=fR wr ba 4 _ _ ga
           have q5:=cR _ _ 5 _ _ _ ga
           have F5:=fR wr ba 5 _ _ ga
           simp only [lg,lz,ls] at q0 q1 q2 q3 q4 q5
           obtain ⟨ue,hw⟩:=eX (((((((wr.setCell ⟨ba,0,none⟩ (.bool t1)).setCell ⟨ba,1,none⟩ (.slice B1 d1 e1)).setCell ⟨ba,2,none⟩ (.slice B2 d2 e2)).setCell ⟨ba,3,none⟩ (.bool t2)).setCell ⟨ba,4,none⟩ (.slice B3 d3 e3)).setCell ⟨ba,5,none⟩ (.slice B4 d4 e4)))
           obtain ⟨E,OT,LV,BL⟩:=AG' ga hw
           have FIN:Hid (RAk w2 ba (As' a b m l) (0+1) ue):=hid ⟨⟨_,_,_,_,_,_,_,_,_,_,_,_,_,_,E,fun _=>by show Aw _ _ (As' a b m l 0).1 (As' a b m l 0).2;exact LV.rbox hv⟩,BL _ _ hbal hBW2⟩
           replace hw:=hid hw
           clear E OT LV BL
           go_wp2_with fail
           rw [←hw.out]
           clear hw q0 q1 q2 q3 q4 q5 F0 F1 F2 F3 F4 F5
           go_wp2_with fail
           go_roundw
           case rel=>exact ⟨_,hkm,by go_num,FIN⟩
           case measure=>simp [intOf];omega
         · obtain ⟨j0,j1,j2,j3,j4,j5⟩:=Ae' gv
           obtain ⟨q0,q1,q2,q3,q4,q5⟩:=Ae' ga
           have hne:((((h+1:Nat)):Int)==0)=false:=by simpa using (show ¬ (((h+1:Nat)):Int)=0 by omega)
           have hne2:¬ (((h+1:Nat)):Int)=0:=by omega
           have hne3:¬ ((h:Nat):Int)+1=0:=by omega
           have sacc:=HPT.out h (by omega)
           have or1:(Aw' (As' a b m l) h).1≤(Aw' (As' a b m l) h).2:=Gz hab.out h
           have or2:=ED' hab.out m l (h+1)
           obtain ⟨x1,hx1⟩:=eY (leastOf (Aw' (As' a b m l) h).1 [(Aw' (As' a b m l) h).2,(As' a b m l (h+1)).1,(As' a b m l (h+1)).2])
           obtain ⟨x2,hx2⟩:=eY (greatestOf (Aw' (As' a b m l) h).1 [(Aw' (As' a b m l) h).2,(As' a b m l (h+1)).1,(As' a b m l (h+1)).2])
           have hst:Aw' (As' a b m l) (h+1)=(x1,x2):=by
             show D7 (Aw' (As' a b m l) h) (As' a b m l (h+1))=_
             unfold D7
             rw [hx1,hx2]
           have HX:=hid (IB' or1 or2 hx1 hx2 (hacc (Nat.succ_pos h)) hv (nT sacc.1 (by omega)) (nT sacc.2 (by omega)) (nT hsv.1 (by omega)) (nT hsv.2 (by omega)))
           replace hst:=hid hst
           clear or1 or2 hx1 hx2 sacc
           go_wp2_with fail
           refine (HX.out).mono ?_
           rintro e w291 ⟨v291,rfl,hv291,b291⟩
           obtain ⟨C291,j291,C292,j292,C293,j293,C294,j294,rfl,-,-,-,-⟩:=id hv291.opened
           replace hv291:=hid hv291
           replace b291:=hid b291
           clear HX q0 q1 q2 q3 q4 q5
           have ga3:=Ad' ga b291.out
           have q0:=cR _ _ 0 _ _ _ ga3
           have F0:=fR w291 ba 0 _ _ ga3
           have q1:=cR _ _ 1 _ _ _ ga3
           have F1:=fR w291 ba 1 _ _ ga3
           have q2:=cR _ _ 2 _ _ _ ga3
           have F2:=fR w291 ba 2 _ _ ga3
           have q3:=cR _ _ 3 _ _ _ ga3
           have F3:=fR w291 ba 3 _ _ ga3
           have q4:=cR _ _ 4 _ _ _ ga3
           have F4:=fR w291 ba 4 _ _ ga3
           have q5:=cR _ _ 5 _ _ _ ga3
           have F5:=fR w291 ba 5 _ _ ga3
           simp only [lg,lz,ls] at q0 q1 q2 q3 q4 q5
           obtain ⟨ue,hw⟩:=eX (((((((w291.setCell ⟨ba,0,none⟩ (.bool (decide (x1.num<0)))).setCell ⟨ba,1,none⟩ (.slice C291 (len x1.num.natAbs) j291)).setCell ⟨ba,2,none⟩ (.slice C292 (len x1.den) j292)).setCell ⟨ba,3,none⟩ (.bool (decide (x2.num<0)))).setCell ⟨ba,4,none⟩ (.slice C293 (len x2.num.natAbs) j293)).setCell ⟨ba,5,none⟩ (.slice C294 (len x2.den) j294)))
           obtain ⟨E,OT,LV,BL⟩:=AG' ga3 hw
           have FIN:Hid (RAk w2 ba (As' a b m l) (h+1+1) ue):=hid ⟨⟨_,_,_,_,_,_,_,_,_,_,_,_,_,_,E,fun _=>by show Aw _ _ (Aw' (As' a b m l) (h+1)).1 (Aw' (As' a b m l) (h+1)).2;rw [hst.out];exact LV.rbox hv291.out⟩,BL _ _ hbal (chain hBW2 b291.out)⟩
           replace hw:=hid hw
           clear E OT LV BL
           go_wp2_with fail
           rw [←hw.out]
           clear hw q0 q1 q2 q3 q4 q5 F0 F1 F2 F3 F4 F5
           go_wp2_with fail
           go_roundw
           case rel=>exact ⟨_,hkm,by go_num,FIN⟩
           case measure=>simp [intOf];omega
   · obtain rfl:k=m:=Nat.le_antisymm hk hkm
     have hin:decide (k<k)=false:=dF_ (Nat.lt_irrefl _)
     obtain ⟨⟨s1,A1,n1,c1,A2,n2,c2,s2,A3,n3,c3,A4,n4,c4,ga,hacc⟩,hbW⟩:=hrel.out
     clear hrel
     obtain ⟨h,rfl⟩:∃ h,k=h+1:=⟨k - 1,by omega⟩
     have hacc2:Aw wr (.agg #[.bool s1,.slice A1 n1 c1,.slice A2 n2 c2,.bool s2,.slice A3 n3 c3,.slice A4 n4 c4]) x y:=by rw [←ex.out,←ey.out];exact hacc (Nat.succ_pos h)
     obtain ⟨z0,z1,z2,z3,z4,z5⟩:=Ae' ga
     have gR:=Ad' (Ad' g2.out b2.out) hbW
     have q0:=cR _ _ 0 _ _ _ gR
     have F0:=fR wr (w.heap.size+1) 0 _ _ gR
     have q1:=cR _ _ 1 _ _ _ gR
     have F1:=fR wr (w.heap.size+1) 1 _ _ gR
     have q2:=cR _ _ 2 _ _ _ gR
     have F2:=fR wr (w.heap.size+1) 2 _ _ gR
     have q3:=cR _ _ 3 _ _ _ gR
     have F3:=fR wr (w.heap.size+1) 3 _ _ gR
     have q4:=cR _ _ 4 _ _ _ gR
     have F4:=fR wr (w.heap.size+1) 4 _ _ gR
     have q5:=cR _ _ 5 _ _ _ gR
     have F5:=fR wr (w.heap.size+1) 5 _ _ gR
     simp only [lg,lz,ls] at q0 q1 q2 q3 q4 q5
     obtain ⟨ue,hw⟩:=eX (((((((wr.setCell ⟨(w.heap.size+1),0,none⟩ (.bool s1)).setCell ⟨(w.heap.size+1),1,none⟩ (.slice A1 n1 c1)).setCell ⟨(w.heap.size+1),2,none⟩ (.slice A2 n2 c2)).setCell ⟨(w.heap.size+1),3,none⟩ (.bool s2)).setCell ⟨(w.heap.size+1),4,none⟩ (.slice A3 n3 c3)).setCell ⟨(w.heap.size+1),5,none⟩ (.slice A4 n4 c4)))
     obtain ⟨E,-,LV,BL⟩:=AG' gR hw
     have FE:=hid (LV.rbox hacc2)
     have FB:=hid (BL _ _ (Nat.le_succ _) (chain (bS b1.out b2.out) hbW))
     replace E:=hid E
     replace hw:=hid hw
     clear ex ey gR LV BL hacc hacc2 ga hbW HPT HPS HCS
     go_wp2_with fail
     rw [←hw.out]
     obtain ⟨r0_,r1_,r2_,r3_,r4_,r5_⟩:=Ae' E.out
     refine bP (v:=.agg #[.bool s1,.slice A1 n1 c1,.slice A2 n2 c2,.bool s2,.slice A3 n3 c3,.slice A4 n4 c4]) ?_ rfl ⟨_,rfl,FE.out,FB.out⟩
     simp [results,Tryz.results12,go_sem,r0_,r1_,r2_,r3_,r4_,r5_]
def En' (w:World) (e:Ending) (w':World):Prop:=e=.returned (.tuple #[.slice none 0 0,.int .i64 3])∧Below w.heap.size w w'
theorem F1' (w:World):Ao' w (.agg #[.bool false,.slice none 0 0,.slice none 0 0,.bool false,.slice none 0 0,.slice none 0 0]) 0 0:=by
 obtain ⟨u1,u2,e1,h1,h2⟩:=Bi' w
 simp only [Value.agg.injEq,Array.mk.injEq,List.cons.injEq,and_true] at e1
 obtain ⟨-,rfl,rfl⟩:=e1
 exact ⟨_,_,_,_,rfl,h1,h2,h1,h2⟩
theorem HA' {w:World} {v:Value} {a b:Rat} {n:Int} (hv:Ao' w v a b) (h:n<1) :
   Calls Tryz.prog 7 #[v,.int .i64 n] w (En' w):=by
 obtain ⟨P1,r1,P2,r2,P3,r3,P4,r4,rfl,-,-⟩:=id hv.opened
 obtain ⟨w1,hw1⟩:=eX (w.alloc (.cells #[.bool (decide (a.num<0)),.slice P1 (Vx.len a.num.natAbs) r1,.slice P2 (Vx.len (below a.den)) r2,.bool (decide (b.num<0)),.slice P3 (Vx.len b.num.natAbs) r3,.slice P4 (Vx.len (below b.den)) r4] 35))
 have b1:=hid (AC hw1)
 have d1:decide (n<1)=true:=dT_ h
 clear hv
 go_enter Tryz.func7,Tryz.ntmps7
 go_upto_region 1 with fail
 rw [←hw1]
 clear hw1
 go_wp2_with fail
 refine bP (v:=.tuple #[.slice none 0 0,.int .i64 3]) ?_ rfl ⟨rfl,b1.out⟩
 simp [results,Tryz.results7,go_sem]
theorem Gz' {w:World} {v:Value} {a b:Rat} {n:Int} (hv:Ao' w v a b) (h:256<n) :
   Calls Tryz.prog 7 #[v,.int .i64 n] w (En' w):=by
 obtain ⟨P1,r1,P2,r2,P3,r3,P4,r4,rfl,-,-⟩:=id hv.opened
 obtain ⟨w1,hw1⟩:=eX (w.alloc (.cells #[.bool (decide (a.num<0)),.slice P1 (Vx.len a.num.natAbs) r1,.slice P2 (Vx.len (below a.den)) r2,.bool (decide (b.num<0)),.slice P3 (Vx.len b.num.natAbs) r3,.slice P4 (Vx.len (below b.den)) r4] 35))
 have b1:=hid (AC hw1)
 have d1:decide (n<1)=false:=dF_ (by omega)
 have d1':¬ n<1:=by omega
 have d2:decide (n>256)=true:=dT_ h
 have d2':n>256:=h
 clear hv
 go_enter Tryz.func7,Tryz.ntmps7
 go_upto_region 1 with fail
 rw [←hw1]
 clear hw1
 go_wp2_with fail
 refine bP (v:=.tuple #[.slice none 0 0,.int .i64 3]) ?_ rfl ⟨rfl,b1.out⟩
 simp [results,Tryz.results7,go_sem]
theorem DQ' {w:World} {v:Value} {a b:Rat} {n:Int} (hv:Ao' w v a b) (h:n<1∨256<n) :
   Calls Tryz.prog 7 #[v,.int .i64 n] w (En' w):=by
 rcases h with h | h
 · exact HA' hv h
 · exact Gz' hv h
theorem HB' {w:World} {A:Option Addr} {n cap:Nat} {v:Value} {a b:Rat} {m:Int} (hv:Ao' w v a b) (h:200<n) (hn:n≤9223372036854775807) :
   Calls Tryz.prog 8 #[.slice A n cap,v,.int .i64 m] w (Ba w 0 0 5):=by
 obtain ⟨P1,r1,P2,r2,P3,r3,P4,r4,rfl,-,-⟩:=id hv.opened
 obtain ⟨w1,hw1⟩:=eX ((w.alloc (.cells #[.bool (decide (a.num<0)),.slice P1 (Vx.len a.num.natAbs) r1,.slice P2 (Vx.len (below a.den)) r2,.bool (decide (b.num<0)),.slice P3 (Vx.len b.num.natAbs) r3,.slice P4 (Vx.len (below b.den)) r4] 35)).alloc (.cells #[.bool false,.slice none 0 0,.slice none 0 0,.bool false,.slice none 0 0,.slice none 0 0] 35))
 obtain ⟨b1,g1,g2⟩:=AA' hw1
 replace b1:=hid b1
 replace g2:=hid g2
 have i0:decide (((n:Nat):Int)>200)=true:=dT_ (by omega)
 have i1:((n:Nat):Int)>200:=by omega
 clear h hn hv
 go_enter Tryz.func8,Tryz.ntmps8
 go_upto_region 1 with fail
 rw [←hw1]
 clear hw1
 have gR:=g2.out
 have bb:=b1.out
 clear g1
 have q0:=cR _ _ 0 _ _ _ gR
 have F0:=fR w1 (w.heap.size+1) 0 _ _ gR
 have q1:=cR _ _ 1 _ _ _ gR
 have F1:=fR w1 (w.heap.size+1) 1 _ _ gR
 have q2:=cR _ _ 2 _ _ _ gR
 have F2:=fR w1 (w.heap.size+1) 2 _ _ gR
 have q3:=cR _ _ 3 _ _ _ gR
 have F3:=fR w1 (w.heap.size+1) 3 _ _ gR
 have q4:=cR _ _ 4 _ _ _ gR
 have F4:=fR w1 (w.heap.size+1) 4 _ _ gR
 have q5:=cR _ _ 5 _ _ _ gR
 have F5:=fR w1 (w.heap.size+1) 5 _ _ gR
 simp only [lg,lz,ls] at q0 q1 q2 q3 q4 q5
 obtain ⟨ue,hw⟩:=eX (((((((w1.setCell ⟨(w.heap.size+1),0,none⟩ (.bool false)).setCell ⟨(w.heap.size+1),1,none⟩ (.slice none 0 0)).setCell ⟨(w.heap.size+1),2,none⟩ (.slice none 0 0)).setCell ⟨(w.heap.size+1),3,none⟩ (.bool false)).setCell ⟨(w.heap.size+1),4,none⟩ (.slice none 0 0)).setCell ⟨(w.heap.size+1),5,none⟩ (.slice none 0 0)))
 obtain ⟨E,-,LV,BL⟩:=AG' gR hw
 have FE:=hid (F1' ue)
 have FB:=hid (BL _ _ (Nat.le_succ _) bb)
 replace E:=hid E
 replace hw:=hid hw
 clear gR bb LV BL
 go_wp2_with fail
 rw [←hw.out]
 obtain ⟨r0_,r1_,r2_,r3_,r4_,r5_⟩:=Ae' E.out
 refine bP (v:=.tuple #[.agg #[.bool false,.slice none 0 0,.slice none 0 0,.bool false,.slice none 0 0,.slice none 0 0],.int .i64 5]) ?_ rfl ⟨_,rfl,FE.out,FB.out⟩
 simp [results,Tryz.results8,go_sem,r0_,r1_,r2_,r3_,r4_,r5_]
theorem GA {w:World} {A:Option Addr} {n cap:Nat} {v:Value} {a b:Rat} {m:Int} (hv:Ao' w v a b) (h:n≤200) (hm:m<1∨256<m) :
   Calls Tryz.prog 8 #[.slice A n cap,v,.int .i64 m] w (Ba w 0 0 3):=by
 obtain ⟨P1,r1,P2,r2,P3,r3,P4,r4,rfl,-,-⟩:=id hv.opened
 obtain ⟨w1,hw1⟩:=eX ((w.alloc (.cells #[.bool (decide (a.num<0)),.slice P1 (Vx.len a.num.natAbs) r1,.slice P2 (Vx.len (below a.den)) r2,.bool (decide (b.num<0)),.slice P3 (Vx.len b.num.natAbs) r3,.slice P4 (Vx.len (below b.den)) r4] 35)).alloc (.cells #[.bool false,.slice none 0 0,.slice none 0 0,.bool false,.slice none 0 0,.slice none 0 0] 35))
 obtain ⟨b1,g1,g2⟩:=AA' hw1
 replace b1:=hid b1
 replace g2:=hid g2
 have i0:decide (((n:Nat):Int)>200)=false:=dF_ (by omega)
 have i1:¬ ((n:Nat):Int)>200:=by omega
 clear h
 replace hm:=hid hm
 replace hv:=hid hv
 go_enter Tryz.func8,Tryz.ntmps8
 go_upto_region 1 with fail
 rw [←hw1]
 clear hw1
 obtain ⟨z0,z1,z2,z3,z4,z5⟩:=Ae' g1
 have HX:=hid (DQ' (hv.out.keep b1.out) hm.out)
 go_wp2_with fail
 refine (HX.out).mono ?_
 rintro e w2 ⟨rfl,b2⟩
 replace b2:=hid b2
 clear HX z0 z1 z2 z3 z4 z5
 have gR:=Ad' g2.out b2.out
 have bb:=bS b1.out b2.out
 clear g1
 have q0:=cR _ _ 0 _ _ _ gR
 have F0:=fR w2 (w.heap.size+1) 0 _ _ gR
 have q1:=cR _ _ 1 _ _ _ gR
 have F1:=fR w2 (w.heap.size+1) 1 _ _ gR
 have q2:=cR _ _ 2 _ _ _ gR
 have F2:=fR w2 (w.heap.size+1) 2 _ _ gR
 have q3:=cR _ _ 3 _ _ _ gR
 have F3:=fR w2 (w.heap.size+1) 3 _ _ gR
 have q4:=cR _ _ 4 _ _ _ gR
 have F4:=fR w2 (w.heap.size+1) 4 _ _ gR
 have q5:=cR _ _ 5 _ _ _ gR
 have F5:=fR w2 (w.heap.size+1) 5 _ _ gR
 simp only [lg,lz,ls] at q0 q1 q2 q3 q4 q5
 obtain ⟨ue,hw⟩:=eX (((((((w2.setCell ⟨(w.heap.size+1),0,none⟩ (.bool false)).setCell ⟨(w.heap.size+1),1,none⟩ (.slice none 0 0)).setCell ⟨(w.heap.size+1),2,none⟩ (.slice none 0 0)).setCell ⟨(w.heap.size+1),3,none⟩ (.bool false)).setCell ⟨(w.heap.size+1),4,none⟩ (.slice none 0 0)).setCell ⟨(w.heap.size+1),5,none⟩ (.slice none 0 0)))
 obtain ⟨E,-,LV,BL⟩:=AG' gR hw
 have FE:=hid (F1' ue)
 have FB:=hid (BL _ _ (Nat.le_succ _) bb)
 replace E:=hid E
 replace hw:=hid hw
 clear gR bb LV BL
 go_wp2_with fail
 rw [←hw.out]
 obtain ⟨r0_,r1_,r2_,r3_,r4_,r5_⟩:=Ae' E.out
 refine bP (v:=.tuple #[.agg #[.bool false,.slice none 0 0,.slice none 0 0,.bool false,.slice none 0 0,.slice none 0 0],.int .i64 3]) ?_ rfl ⟨_,rfl,FE.out,FB.out⟩
 simp [results,Tryz.results8,go_sem,r0_,r1_,r2_,r3_,r4_,r5_]
end Go.Proofs.YtbigkkjnhcpgiaaGreatDoor.Rf
