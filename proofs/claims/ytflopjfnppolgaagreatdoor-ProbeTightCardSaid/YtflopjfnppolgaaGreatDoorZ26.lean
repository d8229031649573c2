/-
  Contracts of the functions that the law calls, for every input (Rn).
-/
import Derived.Test.YtflopjfnppolgaaGreatDoorZ00
import Derived.Test.YtflopjfnppolgaaGreatDoorZ25
import Derived.Deep.Cut
set_option linter.all false
set_option maxRecDepth 100000
set_option maxHeartbeats 40000000
namespace Go.Proofs.YtflopjfnppolgaaGreatDoor.Rf
open Lib (hid)
open Go.RowKit
open Rx
def rat (minus:Bool) (t d:Nat):Rat:=mkRat (if minus then -(t:Int) else t) d
theorem Iz {minus:Bool} {t d:Nat} (hd:0<d):(rat minus t d).num=(if minus then -((t / Nat.gcd t d:Nat):Int) else ((t / Nat.gcd t d:Nat):Int))∧(rat minus t d).den=d / Nat.gcd t d:=by
 unfold rat
 have hc:(if minus then -(t:Int) else (t:Int)).natAbs=t:=by cases minus <;> simp
 have hdv:((Nat.gcd t d:Nat):Int)∣((t:Nat):Int):=Int.natCast_dvd_natCast.2 (Nat.gcd_dvd_left _ _)
 constructor
 · rw [Rat.num_mkRat,if_neg (by omega),hc,Nat.gcd_comm]
   cases minus
   · show ((t:Nat):Int) / ((Nat.gcd t d:Nat):Int)=((t / Nat.gcd t d:Nat):Int)
     rw [Int.natCast_ediv]
   · show -((t:Nat):Int) / ((Nat.gcd t d:Nat):Int) = -((t / Nat.gcd t d:Nat):Int)
     rw [Int.neg_ediv_of_dvd hdv,Int.natCast_ediv]
 · rw [Rat.den_mkRat,if_neg (by omega),hc,Nat.gcd_comm]
theorem Ez' {minus:Bool} {t d:Nat} {q:Rat} (hd:0<d) (h:rat minus t d=q):q.num.natAbs=t / Nat.gcd t d∧q.den=d / Nat.gcd t d∧decide (q.num<0)=(minus && decide (0<t)):=by
 subst h
 obtain ⟨e1,e2⟩:=Iz (minus:=minus) (t:=t) hd
 have hg:0<Nat.gcd t d:=Nat.gcd_pos_of_pos_right _ hd
 have hp:0<t / Nat.gcd t d↔0<t:=by
   constructor
   · intro h;rcases Nat.eq_zero_or_pos t with h1 | h1
     · rw [h1,Nat.zero_div] at h;exact absurd h (by omega)
     · exact h1
   · intro h;exact Nat.div_pos (Nat.le_of_dvd h (Nat.gcd_dvd_left _ _)) hg
 generalize t / Nat.gcd t d=m at e1 hp ⊢
 refine ⟨?_,e2,?_⟩
 · rw [e1];cases minus <;> simp
 · rw [e1]
   cases minus
   · simp
   · simp;exact hp
theorem Ed' (w:World):Ap' (w.alloc (.cells #[.int .i64 1] 3)) (.slice (some ⟨w.heap.size,0,none⟩) 1 1) 1:=by
 have h1:len 1=1:=BC
 refine ⟨some ⟨w.heap.size,0,none⟩,1,by rw [h1],by rw [h1];exact nL _,by decide,by rw [h1];decide,fun _=>⟨w.heap.size,0,rfl,by rw [World.size_alloc];omega,fun j hj=>?_⟩⟩
 rw [h1] at hj
 obtain rfl:j=0:=by omega
 exact cR _ _ 0 _ _ _ (hA_ w _)
theorem CA' {w:World} {vt vd:Value} {minus:Bool} {t d:Nat} {q:Rat} (hq:rat minus t d=q) (ht:Ap' w vt t) (hd:Ap' w vd d) (h0:0<d) (st:len t≤68719476736) (sd:len d≤68719476736) :
   Calls Tryz.prog 125 #[.bool minus,vt,vd] w (A2' w q):=by
 obtain ⟨p1,p2,p3⟩:=Ez' h0 hq
 obtain ⟨G,hG⟩:=eY (Nat.gcd t d)
 have hgpos:0<G:=by rw [←hG];exact Nat.gcd_pos_of_pos_right _ h0
 obtain ⟨t',ht'⟩:=eY (t / G)
 obtain ⟨d',hd'⟩:=eY (d / G)
 rw [hG,ht'] at p1
 rw [hG,hd'] at p2
 have htp:0<t'↔0<t:=by
   rw [←ht']
   constructor
   · intro h;rcases Nat.eq_zero_or_pos t with h1 | h1
     · rw [h1,Nat.zero_div] at h;exact absurd h (by omega)
     · exact h1
   · intro h;exact Nat.div_pos (by rw [←hG];exact Nat.le_of_dvd h (Nat.gcd_dvd_left _ _)) hgpos
 have hsg:len G≤68719476736:=nT (Am (by rw [←hG];exact Nat.gcd_le_right _ h0)) sd
 obtain ⟨At,ct,rfl,-,-,-,-⟩:=id ht
 obtain ⟨Ad,cd,rfl,-,-,-,-⟩:=id hd
 obtain ⟨wB,hwB⟩:=eX (w.alloc (.cells #[.bool false,.slice none 0 0,.slice none 0 0] 43))
 have hRB:=RB.start w
 have hbB:=Am' w (.cells #[.bool false,.slice none 0 0,.slice none 0 0] 43)
 rw [←hwB] at hRB hbB
 have HC:=hid (Gj (ht.keep hbB) (hd.keep hbB) st sd)
 rw [hG] at HC
 have hq9:=hid hq
 have htp9:=hid htp
 replace p1:=hid p1
 replace p2:=hid p2
 replace p3:=hid p3
 replace hRB:=hid hRB
 replace ht:=hid (ht.keep hbB)
 replace hd:=hid (hd.keep hbB)
 replace hbB:=hid hbB
 obtain ⟨n,hn⟩:=eY (len t)
 obtain ⟨m,hm⟩:=eY (len d)
 rw [hn] at ht st HC ⊢
 rw [hm] at hd sd HC ⊢
 clear htp hq
 replace hG:=hid hG
 replace ht':=hid ht'
 replace hd':=hid hd'
 replace hn:=hid hn
 replace hm:=hid hm
 obtain ⟨R,hR⟩:=eY w.heap.size
 rw [hR] at hRB
 go_enter Tryz.func125,Tryz.ntmps125
 go_upto_region 1 with fail
 rw [←hwB]
 replace hR:=hid hR
 clear hwB
 go_wp2_with fail
 refine (HC.out).mono ?_
 rintro e w1 ⟨v1,rfl,hv1,b1⟩
 replace hv1:=hid hv1
 replace b1:=hid b1
 obtain ⟨Ag,cg,rfl,-,-,-,-⟩:=id hv1.out
 obtain ⟨w2,hw2⟩:=eX (w1.alloc (.cells #[.int .i64 1] 3))
 have hone:=Ed' w1
 have b2:=Am' w1 (.cells #[.int .i64 1] 3)
 rw [←hw2] at hone b2
 obtain ⟨cc,hcc⟩:=eY (Ar G 1)
 have HK:=hid (BE (hv1.out.keep b2) hone (by omega) (by rw [BC];omega))
 rw [hcc] at HK
 replace b2:=hid b2
 clear HC hone
 go_wp2_with fail
 rw [←hw2]
 clear hw2
 refine (HK.out).mono ?_
 rintro e w' ⟨rfl,rfl⟩
 clear HK
 have hRB2:=hid ((hRB.out.call b1.out).call b2.out)
 have ht2:=hid ((ht.out.keep b1.out).keep b2.out)
 have hd2:=hid ((hd.out.keep b1.out).keep b2.out)
 have hv2:=hid (hv1.out.keep b2.out)
 clear ht hd hv1 b1 b2 hRB hbB
 obtain ⟨bz,hbz⟩:=eY (decide (0<t))
 obtain ⟨sb,hsb⟩:=eY (decide (q.num<0))
 have hmz:sb=(minus && bz):=by rw [←hsb,p3.out,hbz]
 have hlz:∀ k,len t'=k→decide (((k:Nat):Int)>0)=bz∧decide (0<k)=bz:=fun k hk=>by
   have:0<k↔0<t:=by rw [←hk];exact Ak.trans htp9.out
   rw [←hbz]
   constructor
   · rw [decide_eq_decide,←this];omega
   · rw [decide_eq_decide,←this]
 replace hmz:=hid hmz
 replace hsb:=hid hsb
 replace hbz:=hid hbz
 replace hlz:=hid hlz
 rcases Nat.lt_trichotomy G 1 with hg1 | hg1 | hg1
 · exact absurd hg1 (by omega)
 · have c1:(cc != 0)=false:=by rw [←hcc,hg1,Ce'];rfl
   have e1:t'=t:=by rw [←ht'.out,hg1,Nat.div_one]
   have e2:d'=d:=by rw [←hd'.out,hg1,Nat.div_one]
   subst e1 e2
   obtain ⟨z1,z2⟩:=hlz.out n hn.out
   replace hcc:=hid hcc
   replace hg1:=hid hg1
   obtain ⟨hbF,⟨r0,r1,r2⟩,hkF⟩:=(hRB2.out).store (b:=sb) (A:=At) (n:=n) (c:=ct) (A':=Ad) (n':=m) (c':=cd) _ rfl
   obtain ⟨u0,u1,u2,⟨k0,k1,k2⟩,f0,f1,f2⟩:=(hRB2.out).cells
   have F:=hid (show Ah _ (.agg #[.bool sb,.slice At n ct,.slice Ad m cd]) q from ⟨_,_,by rw [hsb.out],by rw [p1.out];exact hkF _ _ ht2.out,by rw [p2.out];exact hkF _ _ hd2.out⟩)
   have FB:=hid hbF
   clear hbF hkF
   cases minus
   · have hb9:sb=false:=hmz.out
     subst hb9
     go_wp2_with fail
     refine bP (v:=.agg #[.bool false,.slice At n ct,.slice Ad m cd]) ?_ rfl ⟨_,rfl,F.out,by rw [hR.out];exact FB.out⟩
     simp [results,Tryz.results125,go_sem,r0,r1,r2]
   · have hb9:sb=bz:=hmz.out
     subst hb9
     go_wp2_with fail
     refine bP (v:=.agg #[.bool sb,.slice At n ct,.slice Ad m cd]) ?_ rfl ⟨_,rfl,F.out,by rw [hR.out];exact FB.out⟩
     simp [results,Tryz.results125,go_sem,r0,r1,r2]
 · have c1:(cc != 0)=true:=by rw [←hcc,Ce hg1];rfl
   have HQ:=hid (Df' ht2.out hv2.out hgpos (by rw [hn.out];exact st) hsg)
   rw [ht'.out] at HQ
   replace hcc:=hid hcc
   go_wp2_with fail
   refine (HQ.out).mono ?_
   rintro e w3 ⟨va,vb,rfl,hva,-,b3⟩
   replace hva:=hid hva
   replace b3:=hid b3
   clear HQ
   have HQ:=hid (Df' (hd2.out.keep b3.out) (hv2.out.keep b3.out) hgpos (by rw [hm.out];exact sd) hsg)
   rw [hd'.out] at HQ
   go_wp2_with fail
   refine (HQ.out).mono ?_
   rintro e w4 ⟨vc,ve,rfl,hvc,-,b4⟩
   replace hvc:=hid hvc
   replace b4:=hid b4
   clear HQ
   have hRB4:=hid ((hRB2.out.call b3.out).call b4.out)
   have hva4:=hid (hva.out.keep b4.out)
   clear hva
   obtain ⟨Aa,ca,rfl,-,-,-,-⟩:=id hva4.out
   obtain ⟨Ac,cb,rfl,-,-,-,-⟩:=id hvc.out
   obtain ⟨n',hn'⟩:=eY (len t')
   obtain ⟨m',hm'⟩:=eY (len d')
   obtain ⟨z1,z2⟩:=hlz.out n' hn'
   rw [hn'] at hva4 ⊢
   rw [hm'] at hvc ⊢
   replace hn':=hid hn'
   replace hm':=hid hm'
   clear b3 b4 hRB2 ht2 hd2 hv2 hg1
   obtain ⟨hbF,⟨r0,r1,r2⟩,hkF⟩:=(hRB4.out).store (b:=sb) (A:=Aa) (n:=n') (c:=ca) (A':=Ac) (n':=m') (c':=cb) _ rfl
   obtain ⟨u0,u1,u2,⟨k0,k1,k2⟩,f0,f1,f2⟩:=(hRB4.out).cells
   have F:=hid (show Ah _ (.agg #[.bool sb,.slice Aa n' ca,.slice Ac m' cb]) q from ⟨_,_,by rw [hsb.out],by rw [p1.out];exact hkF _ _ hva4.out,by rw [p2.out];exact hkF _ _ hvc.out⟩)
   have FB:=hid hbF
   clear hbF hkF
   cases minus
   · have hb9:sb=false:=hmz.out
     subst hb9
     go_wp2_with fail
     refine bP (v:=.agg #[.bool false,.slice Aa n' ca,.slice Ac m' cb]) ?_ rfl ⟨_,rfl,F.out,by rw [hR.out];exact FB.out⟩
     simp [results,Tryz.results125,go_sem,r0,r1,r2]
   · have hb9:sb=bz:=hmz.out
     subst hb9
     go_wp2_with fail
     refine bP (v:=.agg #[.bool sb,.slice Aa n' ca,.slice Ac m' cb]) ?_ rfl ⟨_,rfl,F.out,by rw [hR.out];exact FB.out⟩
     simp [results,Tryz.results125,go_sem,r0,r1,r2]
end Go.Proofs.YtflopjfnppolgaaGreatDoor.Rf
