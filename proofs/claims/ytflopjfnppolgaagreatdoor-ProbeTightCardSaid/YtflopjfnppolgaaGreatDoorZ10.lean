/-
  Contracts of the functions that the law calls, for every input (Done Gcd Num2 Q Kit NumA NumB).
-/
import Derived.Test.YtflopjfnppolgaaGreatDoorZ00
import Derived.Test.YtflopjfnppolgaaGreatDoorZ09
import Derived.Deep.RegionHeld3
import Derived.Test.YtflopjfnppolgaaGreatDoorZ01
set_option linter.all false
set_option maxRecDepth 100000
set_option maxHeartbeats 40000000
namespace Go.Proofs.YtflopjfnppolgaaGreatDoor
open Lib (hid)
open Go.RowKit
open Vx
theorem EQ' {A B C D E:Prop} (h:A∧B∧C∧D∧E):E:=h.2.2.2.2
theorem ER {w wr w':World} {g:Nat} {x0 x1 x2 x3:Value} (hb:Below wr.heap.size wr w')
   (h:wr.cell? ⟨g,0,none⟩=some x0∧wr.cell? ⟨g,1,none⟩=some x1∧wr.cell? ⟨g,2,none⟩=some x2∧wr.cell? ⟨g,3,none⟩=some x3∧Below w.heap.size w wr) :
   w'.cell? ⟨g,0,none⟩=some x0∧w'.cell? ⟨g,1,none⟩=some x1∧w'.cell? ⟨g,2,none⟩=some x2∧w'.cell? ⟨g,3,none⟩=some x3∧Below w.heap.size w w':=by
 obtain ⟨h0,h1,h2,h3,h4⟩:=h
 have hg:=bL wr _ h0
 exact ⟨(hb.cell (p:=⟨g,0,none⟩) hg).trans h0,(hb.cell (p:=⟨g,1,none⟩) hg).trans h1,(hb.cell (p:=⟨g,2,none⟩) hg).trans h2,(hb.cell (p:=⟨g,3,none⟩) hg).trans h3,Ae' h4 hb⟩
theorem Es' {w:World} {a b a0 a1 b0 b1:Nat} {va vb:Value} (ha:Nt w va a) (hb:Nt w vb b) (hs:len a≤1099511627776) (ht:len b≤1099511627776)
   (ha0:a0<W) (ha1:a1<W) (hb0:b0<W) (hb1:b1<W)
   (h1:b*b0≤a*a0) (h2:a*a0 - b*b0<W^max (len a) (len b)) (h3:a*a1≤b*b1) (h4:b*b1 - a*a1<W^max (len b) (len a)) :
   Calls Tryz.prog 100 #[.agg #[.int .u64 (a0:Nat),.int .u64 (a1:Nat),.int .u64 (b0:Nat),.int .u64 (b1:Nat),.bool true],va,vb] w (CM' w (a*a0 - b*b0) (b*b1 - a*a1)):=by
 have HX:=fun (w':World) (hk:Below w.heap.size w w')=>hid (BO (As'.mono ha hk hk.size) (As'.mono hb hk hk.size) ha0 hb0 hs ht h1 h2)
 have HY:=fun (w':World) (hk:Below w.heap.size w w')=>hid (BO (As'.mono hb hk hk.size) (As'.mono ha hk hk.size) hb1 ha1 ht hs h3 h4)
 go_enter Tryz.func100,Tryz.ntmps100
 go_wp2_with fail
 have k0:(w.alloc (.cells #[.int .u64 (a0:Nat),.int .u64 (a1:Nat),.int .u64 (b0:Nat),.int .u64 (b1:Nat),.bool true] 139)).cell? ⟨w.heap.size,0,none⟩=some (.int .u64 (a0:Nat)):=cR _ _ _ _ _ _ (hA_ w _)
 have k1:(w.alloc (.cells #[.int .u64 (a0:Nat),.int .u64 (a1:Nat),.int .u64 (b0:Nat),.int .u64 (b1:Nat),.bool true] 139)).cell? ⟨w.heap.size,1,none⟩=some (.int .u64 (a1:Nat)):=cR _ _ _ _ _ _ (hA_ w _)
 have k2:(w.alloc (.cells #[.int .u64 (a0:Nat),.int .u64 (a1:Nat),.int .u64 (b0:Nat),.int .u64 (b1:Nat),.bool true] 139)).cell? ⟨w.heap.size,2,none⟩=some (.int .u64 (b0:Nat)):=cR _ _ _ _ _ _ (hA_ w _)
 have k3:(w.alloc (.cells #[.int .u64 (a0:Nat),.int .u64 (a1:Nat),.int .u64 (b0:Nat),.int .u64 (b1:Nat),.bool true] 139)).cell? ⟨w.heap.size,3,none⟩=some (.int .u64 (b1:Nat)):=cR _ _ _ _ _ _ (hA_ w _)
 have kb:Below w.heap.size w (w.alloc (.cells #[.int .u64 (a0:Nat),.int .u64 (a1:Nat),.int .u64 (b0:Nat),.int .u64 (b1:Nat),.bool true] 139)):=(Below.refl _ _).alloc (nL _) _
 generalize w.alloc (.cells #[.int .u64 (a0:Nat),.int .u64 (a1:Nat),.int .u64 (b0:Nat),.int .u64 (b1:Nat),.bool true] 139)=w0 at k0 k1 k2 k3 kb ⊢
 go_region_held3 (fun w'=>w'.cell? ⟨w.heap.size,0,none⟩=some (.int .u64 (a0:Nat))∧w'.cell? ⟨w.heap.size,1,none⟩=some (.int .u64 (a1:Nat))∧w'.cell? ⟨w.heap.size,2,none⟩=some (.int .u64 (b0:Nat))∧w'.cell? ⟨w.heap.size,3,none⟩=some (.int .u64 (b1:Nat))∧Below w.heap.size w w')
   (first | exact ⟨k0,k1,k2,k3,kb.drew⟩ | exact hk)
   (first | (go_at_call_of 134 (Value.int .u64 ((a0:Nat):Int));refine ((HX _ ?_).out).mono ?_;(apply EQ';assumption);rintro e w' ⟨v1,rfl,hv1,hbl1⟩;have hk:=ER hbl1 (by assumption)) | (go_at_call_of 134 (Value.int .u64 ((b1:Nat):Int));refine ((HY _ ?_).out).mono ?_;(apply EQ';assumption);rintro e w' ⟨v2,rfl,hv2,hbl2⟩;have hk:=ER hbl2 (by assumption)))
 go_wp2_with fail
 go_ret2
 exact ⟨_,_,rfl,hv1.keep hbl2,hv2,hk.2.2.2.2⟩
theorem E5' {w:World} {a b a0 a1 b0 b1:Nat} {va vb:Value} (ha:Nt w va a) (hb:Nt w vb b) (hs:len a≤1099511627776) (ht:len b≤1099511627776)
   (ha0:a0<W) (ha1:a1<W) (hb0:b0<W) (hb1:b1<W)
   (h1:a*a0≤b*b0) (h2:b*b0 - a*a0<W^max (len b) (len a)) (h3:b*b1≤a*a1) (h4:a*a1 - b*b1<W^max (len a) (len b)) :
   Calls Tryz.prog 100 #[.agg #[.int .u64 (a0:Nat),.int .u64 (a1:Nat),.int .u64 (b0:Nat),.int .u64 (b1:Nat),.bool false],va,vb] w (CM' w (b*b0 - a*a0) (a*a1 - b*b1)):=by
 have HX:=fun (w':World) (hk:Below w.heap.size w w')=>hid (BO (As'.mono hb hk hk.size) (As'.mono ha hk hk.size) hb0 ha0 ht hs h1 h2)
 have HY:=fun (w':World) (hk:Below w.heap.size w w')=>hid (BO (As'.mono ha hk hk.size) (As'.mono hb hk hk.size) ha1 hb1 hs ht h3 h4)
 go_enter Tryz.func100,Tryz.ntmps100
 go_wp2_with fail
 have k0:(w.alloc (.cells #[.int .u64 (a0:Nat),.int .u64 (a1:Nat),.int .u64 (b0:Nat),.int .u64 (b1:Nat),.bool false] 139)).cell? ⟨w.heap.size,0,none⟩=some (.int .u64 (a0:Nat)):=cR _ _ _ _ _ _ (hA_ w _)
 have k1:(w.alloc (.cells #[.int .u64 (a0:Nat),.int .u64 (a1:Nat),.int .u64 (b0:Nat),.int .u64 (b1:Nat),.bool false] 139)).cell? ⟨w.heap.size,1,none⟩=some (.int .u64 (a1:Nat)):=cR _ _ _ _ _ _ (hA_ w _)
 have k2:(w.alloc (.cells #[.int .u64 (a0:Nat),.int .u64 (a1:Nat),.int .u64 (b0:Nat),.int .u64 (b1:Nat),.bool false] 139)).cell? ⟨w.heap.size,2,none⟩=some (.int .u64 (b0:Nat)):=cR _ _ _ _ _ _ (hA_ w _)
 have k3:(w.alloc (.cells #[.int .u64 (a0:Nat),.int .u64 (a1:Nat),.int .u64 (b0:Nat),.int .u64 (b1:Nat),.bool false] 139)).cell? ⟨w.heap.size,3,none⟩=some (.int .u64 (b1:Nat)):=cR _ _ _ _ _ _ (hA_ w _)
 have kb:Below w.heap.size w (w.alloc (.cells #[.int .u64 (a0:Nat),.int .u64 (a1:Nat),.int .u64 (b0:Nat),.int .u64 (b1:Nat),.bool false] 139)):=(Below.refl _ _).alloc (nL _) _
 generalize w.alloc (.cells #[.int .u64 (a0:Nat),.int .u64 (a1:Nat),.int .u64 (b0:Nat),.int .u64 (b1:Nat),.bool false] 139)=w0 at k0 k1 k2 k3 kb ⊢
 go_region_held3 (fun w'=>w'.cell? ⟨w.heap.size,0,none⟩=some (.int .u64 (a0:Nat))∧w'.cell? ⟨w.heap.size,1,none⟩=some (.int .u64 (a1:Nat))∧w'.cell? ⟨w.heap.size,2,none⟩=some (.int .u64 (b0:Nat))∧w'.cell? ⟨w.heap.size,3,none⟩=some (.int .u64 (b1:Nat))∧Below w.heap.size w w')
   (first | exact ⟨k0,k1,k2,k3,kb.drew⟩ | exact hk)
   (first | (go_at_call_of 134 (Value.int .u64 ((a0:Nat):Int));refine ((HX _ ?_).out).mono ?_;(apply EQ';assumption);rintro e w' ⟨v1,rfl,hv1,hbl1⟩;have hk:=ER hbl1 (by assumption)) | (go_at_call_of 134 (Value.int .u64 ((b1:Nat):Int));refine ((HY _ ?_).out).mono ?_;(apply EQ';assumption);rintro e w' ⟨v2,rfl,hv2,hbl2⟩;have hk:=ER hbl2 (by assumption)))
 go_wp2_with fail
 go_ret2
 exact ⟨_,_,rfl,hv1.keep hbl2,hv2,hk.2.2.2.2⟩
theorem FK' (w:World) {g:Nat} (h0:0<g) (h:g<W):Nt (w.alloc (.cells #[.int .u64 (g:Nat)] 101)) (.slice (some ⟨w.heap.size,0,none⟩) 1 1) g:=by
 have hl:=BH h0 h
 refine ⟨_,1,by rw [hl],by rw [hl];omega,by omega,fun e=>by omega,fun _=>⟨w.heap.size,0,rfl,by simp,fun j hj=>?_⟩⟩
 rw [hl] at hj
 obtain rfl:j=0:=by omega
 rw [cR _ _ _ _ _ _ (hA_ w _)]
 simp [word,Nat.mod_eq_of_lt h]
def GL' (w:World) (G L k:Nat) (va vb:Value) (wr:World):Prop :=
  ∃ x y:Nat,Hid (k=x+y)∧Nt wr va x∧Nt wr vb y∧y≤x∧0<x∧len x≤L∧Hid (Nat.gcd x y=G)∧Below w.heap.size w wr
theorem E6' {x y a0 a1 b0 b1:Nat} {ev:Bool} (h:Ci' x y a0 a1 b0 b1 ev) (hy:0<y) :
   ∃ p q:Nat,q≤p∧p+q≤x∧Nat.gcd p q=Nat.gcd x y ∧
     (ev=true→y*b0≤x*a0∧x*a0 - y*b0=p∧x*a1≤y*b1∧y*b1 - x*a1=q)∧(ev=false→x*a0≤y*b0∧y*b0 - x*a0=p∧y*b1≤x*a1∧x*a1 - y*b1=q)∧0<p:=by
 obtain ⟨p,q,h1,h2,h3,h4⟩:=h
 have hp:0<p:=by
   rcases Nat.eq_zero_or_pos p with h0 | h0
   · obtain rfl:q=0:=by omega
     rw [h0,Nat.gcd_zero_right] at h3
     have:=Nat.gcd_pos_of_pos_right x hy
     omega
   · exact h0
 refine ⟨p,q,h1,h2,h3,fun e=>?_,fun e=>?_,hp⟩
 · subst e
   simp only [if_true] at h4
   rw [Nat.mul_comm y b0,Nat.mul_comm x a0,Nat.mul_comm x a1,Nat.mul_comm y b1]
   omega
 · subst e
   simp only [Bool.false_eq_true,if_false] at h4
   rw [Nat.mul_comm y b0,Nat.mul_comm x a0,Nat.mul_comm x a1,Nat.mul_comm y b1]
   omega
theorem BT' {x z a b:Nat} (h:z≤x) (ha:len x≤a):z<W^max a b :=
 Nat.lt_of_le_of_lt h (ltl (Ao x) (Nat.pow_le_pow_right W_pos (nT ha (Nat.le_max_left a b))))
theorem B8' {x z a b:Nat} (h:z≤x) (ha:len x≤b):z<W^max a b:=by rw [Nat.max_comm];exact BT' h ha
theorem Iq' {w:World} {a b:Nat} {va vb:Value} (ha:Nt w va a) (hb:Nt w vb b) (hs:len a≤1099511627776) (hba:b≤a) (h0:0<a) :
   Calls Tryz.prog 62 #[va,vb] w (AI w (Nat.gcd a b)):=by
 have hcm:=Bs' ha hb
 have hc:decide (Ar a b<0)=false:=by unfold Ar;rw [if_neg (by omega)];split <;> rfl
 obtain ⟨G,hG⟩:=eX (Nat.gcd a b)
 rw [←hG]
 have HG:=hid hG
 clear hG
 go_enter Tryz.func62,Tryz.ntmps62
 go_wp2_with fail
 refine hcm.mono ?_
 rintro e w1 ⟨rfl,m,rfl⟩
 go_wp2_with fail
 go_loopg [0,1] (a+b) (fun k av bv wr=>GL' w G (len a) k av bv wr)
 case atStart=>exact ⟨a,b,rfl,ha.drewN m,hb.drewN m,hba,h0,nL _,HG.out.symm,Aw w m⟩
 case round =>
   obtain ⟨x,y,HK,hx,hy,hyx,hx0,hlx,HGx,hbw⟩:=hrel
   clear ha hb hcm
   obtain ⟨A,c,ey,hc1,hc2,_,hp⟩:=id hy
   subst ey
   have hly:=Am hyx
   by_cases h2:2≤len y
   · have hy0:=Ak.1 (show 0<len y by omega)
     go_wp2_with fail
     refine (Dr' hx hy (by omega) hyx h2).mono ?_
     rintro e w2 ⟨a0,a1,b0,b1,ev,rfl,ha0,ha1,hb0,hb1,HO,b2⟩
     have HO:=hid HO
     have hx2:=hx.keep b2
     have hy2:=hy.keep b2
     have hx3:=fun o=>hx2.keep ((Below.refl w2.heap.size w2).alloc (nL _) o)
     have hy3:=fun o=>hy2.keep ((Below.refl w2.heap.size w2).alloc (nL _) o)
     have b3:=fun o=>Ae' (Ae' hbw b2) ((Below.refl w2.heap.size w2).alloc (nL _) o)
     by_cases hz:b0=0
     · have ht:(((b0:Nat):Int)==0)=true:=by rw [beq_iff_eq];omega
       clear hz
       go_wp2_with fail
       refine (Ea' (hx3 _) (hy3 _) (by omega) hy0).mono ?_
       rintro e w4 ⟨vq,vr,rfl,hvq,hvr,b4⟩
       go_wp2_with fail
       have hml:=Nat.mod_lt x hy0
       go_roundg (y+x%y)
       case measure=>have:=HK.out;omega
       case rel =>
         refine ⟨y,x%y,rfl,(hy3 _).keep b4,hvr,Nat.le_of_lt hml,hy0,by omega,?_,Ae' (b3 _) b4⟩
         show _=_
         rw [←HGx.out,Nat.gcd_comm x y,Nat.gcd_rec y x,Nat.gcd_comm]
     · have ht:(((b0:Nat):Int)==0)=false:=by rw [beq_eq_false_iff_ne];omega
       obtain ⟨p,q,hqp,hpq,hgpq,hev1,hev2,hp0⟩:=E6' (HO.out.resolve_left hz) hy0
       have hpx:p≤x:=by omega
       have hqx:q≤x:=by omega
       have HGP:=hid hgpq
       have hlp:=Am hpx
       clear hz hgpq HO
       cases ev
       · obtain ⟨d1,d2,d3,d4⟩:=hev2 rfl
         clear hev1 hev2
         have HD:=fun (o:Obj)=>hid (E5' (hx3 o) (hy3 o) (by omega) (by omega) ha0 ha1 hb0 hb1 d1 (by rw [d2];exact B8' hpx (nL _)) d3 (by rw [d4];exact BT' hqx (nL _)))
         rw [d2,d4] at HD
         clear d1 d2 d3 d4
         go_wp2_with fail
         refine ((HD _).out).mono ?_
         rintro e w4 ⟨vp,vq,rfl,hvp,hvq,b4⟩
         go_wp2_with fail
         go_roundg (p+q)
         case measure=>have:=HK.out;omega
         case rel =>
           refine ⟨p,q,rfl,hvp,hvq,hqp,hp0,by omega,?_,Ae' (b3 _) b4⟩
           show _=_
           rw [HGP.out,HGx.out]
       · obtain ⟨d1,d2,d3,d4⟩:=hev1 rfl
         clear hev1 hev2
         have HD:=fun (o:Obj)=>hid (Es' (hx3 o) (hy3 o) (by omega) (by omega) ha0 ha1 hb0 hb1 d1 (by rw [d2];exact BT' hpx (nL _)) d3 (by rw [d4];exact B8' hqx (nL _)))
         rw [d2,d4] at HD
         clear d1 d2 d3 d4
         go_wp2_with fail
         refine ((HD _).out).mono ?_
         rintro e w4 ⟨vp,vq,rfl,hvp,hvq,b4⟩
         go_wp2_with fail
         go_roundg (p+q)
         case measure=>have:=HK.out;omega
         case rel =>
           refine ⟨p,q,rfl,hvp,hvq,hqp,hp0,by omega,?_,Ae' (b3 _) b4⟩
           show _=_
           rw [HGP.out,HGx.out]
   · rcases Nat.eq_zero_or_pos y with hy0 | hy0
     · have hly0:len y=0:=BB'.2 hy0
       have ht:(((len y:Nat):Int)==0)=true:=by rw [beq_iff_eq];omega
       have HY:=hid hy0
       clear hy0 hly0
       go_wp2_with fail
       go_ret
       refine ⟨_,rfl,?_,hbw⟩
       rw [←HGx.out,HY.out,Nat.gcd_zero_right]
       exact hx
     · have hl1:=Ak.2 hy0
       have hlen1:len y=1:=by omega
       have ht:(((len y:Nat):Int)==0)=false:=by rw [beq_eq_false_iff_ne];omega
       have hyW:y<W:=by have:=Ao y;rwa [hlen1,Nat.pow_one] at this
       have hone:=Bd' hy
       by_cases h1:y=1
       · rw [dT_ h1] at hone
         have H1:=hid h1
         clear h1 hlen1
         go_wp2_with fail
         refine hone.mono ?_
         rintro e w2 ⟨rfl,rfl⟩
         go_wp2_with fail
         go_ret
         refine ⟨_,rfl,?_,hbw.alloc hbw.size _⟩
         rw [←HGx.out,H1.out,Nat.gcd_one_right]
         exact CN wr
       · rw [dF_ h1] at hone
         obtain ⟨g,o,rfl,hg,hcell⟩:=hp hy0
         have hw0:word y 0=y:=by unfold word;rw [Nat.pow_zero,Nat.div_one,Nat.mod_eq_of_lt hyW]
         have hc:=hcell 0 (by omega)
         rw [hw0,Nat.add_zero] at hc
         have hi0:(0:Int)<((len y:Nat):Int):=by omega
         have hgp:0<Nat.gcd y (x%y):=Nat.gcd_pos_of_pos_left _ hy0
         have hgl:Nat.gcd y (x%y)≤y:=Nat.gcd_le_left _ hy0
         have hgw:=fun w=>Db' (w:=w) hyW (Nat.lt_trans (Nat.mod_lt x hy0) hyW)
         clear h1 hlen1 hcell hw0 hp
         go_wp2_with fail
         refine hone.mono ?_
         rintro e w2 ⟨rfl,rfl⟩
         go_wp2_with fail
         refine (Cg hx (by omega) hy0 hyW).mono ?_
         rintro e w3 ⟨vq,rfl,hvq,b3⟩
         have hc3:w3.cell? ⟨g,o,none⟩=some (.int .u64 (y:Nat)):=(b3.cell (p:=⟨g,o,none⟩) hg).trans hc
         go_wp2_with fail
         refine (hgw _).mono ?_
         rintro e w4 ⟨rfl,m2,rfl⟩
         go_wp2_with fail
         go_ret
         refine ⟨_,rfl,?_,(Ae' (Ae' hbw b3) (Aw _ m2)).alloc ((Ae' (Ae' hbw b3) (Aw _ m2)).size) _⟩
         rw [←HGx.out,Nat.gcd_comm x y,Nat.gcd_rec y x,Nat.gcd_comm (x%y) y]
         exact FK' _ hgp (Nat.lt_of_le_of_lt hgl hyW)
theorem Ht {w:World} {a b:Nat} {va vb:Value} (ha:Nt w va a) (hb:Nt w vb b) (hs:len a≤1099511627776) (hba:b<a) (h0:0<a) :
   Calls Tryz.prog 62 #[vb,va] w (AI w (Nat.gcd a b)):=by
 have hcm:=Bs' hb ha
 have hc:decide (Ar b a<0)=true:=by unfold Ar;rw [if_pos hba];rfl
 obtain ⟨G,hG⟩:=eX (Nat.gcd a b)
 rw [←hG]
 have HG:=hid hG
 clear hG
 go_enter Tryz.func62,Tryz.ntmps62
 go_wp2_with fail
 refine hcm.mono ?_
 rintro e w1 ⟨rfl,m,rfl⟩
 go_wp2_with fail
 go_loopg [0,1] (a+b) (fun k av bv wr=>GL' w G (len a) k av bv wr)
 case atStart=>exact ⟨a,b,rfl,ha.drewN m,hb.drewN m,Nat.le_of_lt hba,h0,nL _,HG.out.symm,Aw w m⟩
 case round =>
   obtain ⟨x,y,HK,hx,hy,hyx,hx0,hlx,HGx,hbw⟩:=hrel
   clear ha hb hcm
   obtain ⟨A,c,ey,hc1,hc2,_,hp⟩:=id hy
   subst ey
   have hly:=Am hyx
   by_cases h2:2≤len y
   · have hy0:=Ak.1 (show 0<len y by omega)
     go_wp2_with fail
     refine (Dr' hx hy (by omega) hyx h2).mono ?_
     rintro e w2 ⟨a0,a1,b0,b1,ev,rfl,ha0,ha1,hb0,hb1,HO,b2⟩
     have HO:=hid HO
     have hx2:=hx.keep b2
     have hy2:=hy.keep b2
     have hx3:=fun o=>hx2.keep ((Below.refl w2.heap.size w2).alloc (nL _) o)
     have hy3:=fun o=>hy2.keep ((Below.refl w2.heap.size w2).alloc (nL _) o)
     have b3:=fun o=>Ae' (Ae' hbw b2) ((Below.refl w2.heap.size w2).alloc (nL _) o)
     by_cases hz:b0=0
     · have ht:(((b0:Nat):Int)==0)=true:=by rw [beq_iff_eq];omega
       clear hz
       go_wp2_with fail
       refine (Ea' (hx3 _) (hy3 _) (by omega) hy0).mono ?_
       rintro e w4 ⟨vq,vr,rfl,hvq,hvr,b4⟩
       go_wp2_with fail
       have hml:=Nat.mod_lt x hy0
       go_roundg (y+x%y)
       case measure=>have:=HK.out;omega
       case rel =>
         refine ⟨y,x%y,rfl,(hy3 _).keep b4,hvr,Nat.le_of_lt hml,hy0,by omega,?_,Ae' (b3 _) b4⟩
         show _=_
         rw [←HGx.out,Nat.gcd_comm x y,Nat.gcd_rec y x,Nat.gcd_comm]
     · have ht:(((b0:Nat):Int)==0)=false:=by rw [beq_eq_false_iff_ne];omega
       obtain ⟨p,q,hqp,hpq,hgpq,hev1,hev2,hp0⟩:=E6' (HO.out.resolve_left hz) hy0
       have hpx:p≤x:=by omega
       have hqx:q≤x:=by omega
       have HGP:=hid hgpq
       have hlp:=Am hpx
       clear hz hgpq HO
       cases ev
       · obtain ⟨d1,d2,d3,d4⟩:=hev2 rfl
         clear hev1 hev2
         have HD:=fun (o:Obj)=>hid (E5' (hx3 o) (hy3 o) (by omega) (by omega) ha0 ha1 hb0 hb1 d1 (by rw [d2];exact B8' hpx (nL _)) d3 (by rw [d4];exact BT' hqx (nL _)))
         rw [d2,d4] at HD
         clear d1 d2 d3 d4
         go_wp2_with fail
         refine ((HD _).out).mono ?_
         rintro e w4 ⟨vp,vq,rfl,hvp,hvq,b4⟩
         go_wp2_with fail
         go_roundg (p+q)
         case measure=>have:=HK.out;omega
         case rel =>
           refine ⟨p,q,rfl,hvp,hvq,hqp,hp0,by omega,?_,Ae' (b3 _) b4⟩
           show _=_
           rw [HGP.out,HGx.out]
       · obtain ⟨d1,d2,d3,d4⟩:=hev1 rfl
         clear hev1 hev2
         have HD:=fun (o:Obj)=>hid (Es' (hx3 o) (hy3 o) (by omega) (by omega) ha0 ha1 hb0 hb1 d1 (by rw [d2];exact BT' hpx (nL _)) d3 (by rw [d4];exact B8' hqx (nL _)))
         rw [d2,d4] at HD
         clear d1 d2 d3 d4
         go_wp2_with fail
         refine ((HD _).out).mono ?_
         rintro e w4 ⟨vp,vq,rfl,hvp,hvq,b4⟩
         go_wp2_with fail
         go_roundg (p+q)
         case measure=>have:=HK.out;omega
         case rel =>
           refine ⟨p,q,rfl,hvp,hvq,hqp,hp0,by omega,?_,Ae' (b3 _) b4⟩
           show _=_
           rw [HGP.out,HGx.out]
   · rcases Nat.eq_zero_or_pos y with hy0 | hy0
     · have hly0:len y=0:=BB'.2 hy0
       have ht:(((len y:Nat):Int)==0)=true:=by rw [beq_iff_eq];omega
       have HY:=hid hy0
       clear hy0 hly0
       go_wp2_with fail
       go_ret
       refine ⟨_,rfl,?_,hbw⟩
       rw [←HGx.out,HY.out,Nat.gcd_zero_right]
       exact hx
     · have hl1:=Ak.2 hy0
       have hlen1:len y=1:=by omega
       have ht:(((len y:Nat):Int)==0)=false:=by rw [beq_eq_false_iff_ne];omega
       have hyW:y<W:=by have:=Ao y;rwa [hlen1,Nat.pow_one] at this
       have hone:=Bd' hy
       by_cases h1:y=1
       · rw [dT_ h1] at hone
         have H1:=hid h1
         clear h1 hlen1
         go_wp2_with fail
         refine hone.mono ?_
         rintro e w2 ⟨rfl,rfl⟩
         go_wp2_with fail
         go_ret
         refine ⟨_,rfl,?_,hbw.alloc hbw.size _⟩
         rw [←HGx.out,H1.out,Nat.gcd_one_right]
         exact CN wr
       · rw [dF_ h1] at hone
         obtain ⟨g,o,rfl,hg,hcell⟩:=hp hy0
         have hw0:word y 0=y:=by unfold word;rw [Nat.pow_zero,Nat.div_one,Nat.mod_eq_of_lt hyW]
         have hc:=hcell 0 (by omega)
         rw [hw0,Nat.add_zero] at hc
         have hi0:(0:Int)<((len y:Nat):Int):=by omega
         have hgp:0<Nat.gcd y (x%y):=Nat.gcd_pos_of_pos_left _ hy0
         have hgl:Nat.gcd y (x%y)≤y:=Nat.gcd_le_left _ hy0
         have hgw:=fun w=>Db' (w:=w) hyW (Nat.lt_trans (Nat.mod_lt x hy0) hyW)
         clear h1 hlen1 hcell hw0 hp
         go_wp2_with fail
         refine hone.mono ?_
         rintro e w2 ⟨rfl,rfl⟩
         go_wp2_with fail
         refine (Cg hx (by omega) hy0 hyW).mono ?_
         rintro e w3 ⟨vq,rfl,hvq,b3⟩
         have hc3:w3.cell? ⟨g,o,none⟩=some (.int .u64 (y:Nat)):=(b3.cell (p:=⟨g,o,none⟩) hg).trans hc
         go_wp2_with fail
         refine (hgw _).mono ?_
         rintro e w4 ⟨rfl,m2,rfl⟩
         go_wp2_with fail
         go_ret
         refine ⟨_,rfl,?_,(Ae' (Ae' hbw b3) (Aw _ m2)).alloc ((Ae' (Ae' hbw b3) (Aw _ m2)).size) _⟩
         rw [←HGx.out,Nat.gcd_comm x y,Nat.gcd_rec y x,Nat.gcd_comm (x%y) y]
         exact FK' _ hgp (Nat.lt_of_le_of_lt hgl hyW)
theorem BO' {w:World} {a b:Nat} {va vb:Value} (ha:Nt w va a) (hb:Nt w vb b) (hs:len a≤1099511627776) (ht:len b≤1099511627776) (h0:0<a∨0<b) :
   Calls Tryz.prog 62 #[va,vb] w (AI w (Nat.gcd a b)):=by
 rcases Nat.lt_or_ge a b with h | h
 · rw [Nat.gcd_comm];exact Ht hb ha ht h (by omega)
 · exact Iq' ha hb hs h (by omega)
def below (d:Nat):Nat:=if d=1 then 0 else d
def Ac' (w:World) (v:Value) (q:Rat):Prop :=
  ∃ v1 v2,v=.agg #[.bool (decide (q.num<0)),v1,v2]∧Nt w v1 q.num.natAbs∧Nt w v2 (below q.den)
theorem Ac'.keep {w w':World} {v:Value} {q:Rat} (h:Ac' w v q) (hb:Below w.heap.size w w'):Ac' w' v q:=by
 obtain ⟨v1,v2,h1,h2,h3⟩:=h
 exact ⟨v1,v2,h1,h2.keep hb,h3.keep hb⟩
theorem AD {w:World} {v:Value} {q:Rat} (h:Ac' w v q):Calls Tryz.prog 61 #[v] w (AI w q.den):=by
 obtain ⟨v1,v2,rfl,h1,h2⟩:=h
 obtain ⟨A,c,rfl,hc1,hc2,hz,hp⟩:=id h2
 by_cases hd:q.den=1
 · have hb0:below q.den=0:=by unfold below;rw [if_pos hd]
   have hl:len (below q.den)=0:=by rw [hb0,AG']
   have ht:(((len (below q.den):Nat):Int)==0)=true:=by rw [beq_iff_eq];omega
   have HD:=hid hd
   clear hd hb0 hl
   go_enter Tryz.func61,Tryz.ntmps61
   go_wp2
   go_ret
   refine ⟨_,rfl,?_,((Below.refl _ _).alloc (nL _) _).alloc (by simp) _⟩
   rw [HD.out]
   have e:=fun o=>CN (w.alloc o)
   simp only [World.size_alloc] at e
   exact e _
 · have hb0:below q.den=q.den:=by unfold below;rw [if_neg hd]
   have hl:0<len (below q.den):=by rw [hb0];exact Ak.2 q.den_pos
   have ht:(((len (below q.den):Nat):Int)==0)=false:=by rw [beq_eq_false_iff_ne];omega
   have HB:=hid hb0
   clear hd hb0
   go_enter Tryz.func61,Tryz.ntmps61
   go_wp2
   go_ret
   refine ⟨_,rfl,?_,(Below.refl _ _).alloc (nL _) _⟩
   have:=h2.keep ((Below.refl w.heap.size w).alloc (nL _) (.cells #[.bool (decide (q.num<0)),v1,.slice A (len (below q.den)) c] 35))
   rw [HB.out] at this ⊢
   exact this
def ratOf (neg:Bool) (t d:Nat):Rat:=mkRat (if neg then -(t:Int) else t) d
theorem F7' (neg:Bool) (d:Nat):ratOf neg 0 d=0:=by cases neg <;> simp [ratOf]
theorem GM {neg:Bool} {t d:Nat} (hd:d≠0) (hc:t.Coprime d):(ratOf neg t d).num=(if neg then -(t:Int) else t)∧(ratOf neg t d).den=d:=by
 have hc':(if neg then -(t:Int) else (t:Int)).natAbs.Coprime d:=by cases neg <;> simpa using hc
 unfold ratOf
 rw [←Rat.mk_eq_mkRat _ _ hd hc']
 exact ⟨rfl,rfl⟩
def Az' (w:World) (q:Rat) (e:Ending) (w':World):Prop:=∃ v,e=.returned v∧Ac' w' v q∧Below w.heap.size w w'
theorem Bi' (w:World):Ac' w (.agg #[.bool false,.slice none 0 0,.slice none 0 0]) 0 :=
 ⟨_,_,rfl,Nt.zero w,by have:below (0:Rat).den=0:=rfl;rw [this];exact Nt.zero w⟩
theorem GM' {w:World} {neg:Bool} {t d:Nat} {vt vd:Value} (ht:Nt w vt t) (hd:Nt w vd (below d)) (h0:0<t) (hd0:d≠0) (hc:t.Coprime d) :
   Ac' w (.agg #[.bool neg,vt,vd]) (ratOf neg t d):=by
 obtain ⟨e1,e2⟩:=GM (neg:=neg) hd0 hc
 refine ⟨vt,vd,?_,?_,by rw [e2];exact hd⟩
 · rw [e1]
   congr 3
   cases neg
   · simp
   · simp;omega
 · rw [e1]
   cases neg <;> simpa using ht
theorem Cz {w:World} {neg:Bool} {t d:Nat} {vt vd:Value} (ht:Nt w vt t) (hd:Nt w vd d) (hc:t.Coprime (if d=0 then 1 else d)) :
   Calls Tryz.prog 60 #[.bool neg,vt,vd] w (Az' w (ratOf neg t (if d=0 then 1 else d))):=by
 obtain ⟨A,c,rfl,hc1,hc2,hz,hp⟩:=id ht
 obtain ⟨A2,c2,ed,_⟩:=id hd
 subst ed
 have b1:∀ o,Below w.heap.size w (w.alloc o):=fun o=>(Below.refl _ _).alloc (nL _) o
 have hone:=Bd' hd
 have HC:=hid hc
 clear hc
 rcases Nat.eq_zero_or_pos t with h0 | h0
 · have hl:(((len t:Nat):Int)==0)=true:=by rw [beq_iff_eq,BB'.2 h0];rfl
   have H0:=hid h0
   obtain ⟨q,hq⟩:=eX (ratOf neg t (if d=0 then 1 else d))
   rw [←hq]
   have HQ:=hid hq
   clear h0 hq
   go_enter Tryz.func60,Tryz.ntmps60
   go_wp2_with fail
   refine bP (v:=.agg #[.bool false,.slice none 0 0,.slice none 0 0]) (by simp [results,Tryz.results60,go_sem]) rfl ⟨_,rfl,?_,b1 _⟩
   rw [HQ.out,H0.out,F7']
   exact Bi' _
 · have hlp:=Ak.2 h0
   have hl:(((len t:Nat):Int)==0)=false:=by rw [beq_eq_false_iff_ne];omega
   obtain ⟨q,hq⟩:=eX (ratOf neg t (if d=0 then 1 else d))
   rw [←hq]
   have HQ:=hid hq
   clear hq
   by_cases hd1:d=1
   · have H1:=hid hd1
     have hone2:=fun o=>Bd' (hd.keep (b1 o))
     rw [dT_ hd1] at hone2
     clear hd1 hone
     go_enter Tryz.func60,Tryz.ntmps60
     go_wp2_with fail
     refine (hone2 _).mono ?_
     rintro e w' ⟨rfl,rfl⟩
     go_wp2_with fail
     refine bP (v:=.agg #[.bool neg,.slice A (len t) c,.slice none 0 0]) (by simp [results,Tryz.results60,go_sem]) rfl ⟨_,rfl,?_,b1 _⟩
     rw [HQ.out,H1.out,if_neg (by omega)]
     exact GM' (ht.keep (b1 _)) (by have:below 1=0:=rfl;rw [this];exact Nt.zero _) h0 (by omega) (Nat.coprime_one_right t)
   · have H1:=hid hd1
     have hone2:=fun o=>Bd' (hd.keep (b1 o))
     rw [dF_ hd1] at hone2
     clear hd1 hone
     go_enter Tryz.func60,Tryz.ntmps60
     go_wp2_with fail
     refine (hone2 _).mono ?_
     rintro e w' ⟨rfl,rfl⟩
     go_wp2_with fail
     refine bP (v:=.agg #[.bool neg,.slice A (len t) c,.slice A2 (len d) c2]) (by simp [results,Tryz.results60,go_sem]) rfl ⟨_,rfl,?_,b1 _⟩
     rw [HQ.out]
     refine GM' (ht.keep (b1 _)) ?_ h0 (by split <;> omega) HC.out
     by_cases hd0:d=0
     · rw [if_pos hd0]
       have:below 1=0:=rfl
       rw [this,←hd0]
       exact hd.keep (b1 _)
     · rw [if_neg hd0]
       unfold below
       rw [if_neg H1.out]
       exact hd.keep (b1 _)
theorem GN {neg:Bool} {t d:Nat} (hd:0<d):ratOf neg (t / Nat.gcd t d) (d / Nat.gcd t d)=ratOf neg t d:=by
 have hg:0<Nat.gcd t d:=Nat.gcd_pos_of_pos_right t hd
 obtain ⟨a,ha⟩:=Nat.gcd_dvd_left t d
 obtain ⟨b,hb⟩:=Nat.gcd_dvd_right t d
 generalize Nat.gcd t d=g at *
 subst ha
 subst hb
 rw [Nat.mul_div_cancel_left _ hg,Nat.mul_div_cancel_left _ hg]
 unfold ratOf
 rw [←Rat.mkRat_mul_left (a:=g) (by omega)]
 congr 1
 cases neg
 · simp
 · simp [Int.mul_neg]
theorem Nt.set {w:World} {b o x:Nat} {v u:Value} {cs:Array Value} {t:TypeId} (h:Nt w v x) (hg:w.heap[b]?=some (.cells cs t (0,0)))
   (hn:∀ (i:Nat) (k:IntKind) (n:Int),cs[i]?≠some (Value.int k n)) (hb:Below b w (w.setCell ⟨b,o,none⟩ u)):Nt (w.setCell ⟨b,o,none⟩ u) v x:=by
 obtain ⟨A,c,h1,h2,h3,h4,h5⟩:=h
 refine ⟨A,c,h1,h2,h3,h4,fun h0=>?_⟩
 obtain ⟨g,p,hA,hlt,hc⟩:=h5 h0
 have hgb:g≠b:=by
   intro e
   subst e
   have:=hc 0 (Ak.2 h0)
   rw [cR _ _ _ _ _ _ hg] at this
   exact hn _ _ _ this
 refine ⟨g,p,hA,ltl hlt hb.size,fun j hj=>?_⟩
 exact (World.cell?_of_block (heap_setCell_other w ⟨b,o,none⟩ g u hgb)).trans (hc j hj)
theorem row_plain (p:Bool) (A B:Option Addr) (a b c d:Nat):∀ (i:Nat) (k:IntKind) (n:Int),(#[Value.bool p,.slice A a b,.slice B c d]:Array Value)[i]?≠some (Value.int k n):=by
 intro i k n h
 rcases i with _ | _ | _ | i <;> simp at h
theorem Ft {w:World} {neg:Bool} {t d:Nat} {vt vd:Value} (ht:Nt w vt t) (hd:Nt w vd d) (hd0:0<d) (hs:len t≤1099511627776) (hs2:len d≤1099511627776) :
   Calls Tryz.prog 57 #[.bool neg,vt,vd] w (Az' w (ratOf neg t d)):=by
 have hg:0<Nat.gcd t d:=Nat.gcd_pos_of_pos_right t hd0
 have hq:d / Nat.gcd t d≠0:=by
   have:=Nat.div_pos (Nat.le_of_dvd hd0 (Nat.gcd_dvd_right t d)) hg
   omega
 have hco:(t / Nat.gcd t d).Coprime (d / Nat.gcd t d):=Nat.coprime_div_gcd_div_gcd hg
 have hred:=GN (neg:=neg) (t:=t) hd0
 have HR:=hid hred
 clear hred
 obtain ⟨wA,hwA⟩:=eX (w.alloc (.cells #[.bool false,.slice none 0 0,.slice none 0 0] 35))
 have b0:Below w.heap.size w wA:=by rw [hwA];exact (Below.refl _ _).alloc (nL _) _
 have gA:wA.heap[w.heap.size]?=some (.cells #[.bool false,.slice none 0 0,.slice none 0 0] 35):=by rw [hwA];exact hA_ w _
 have hsz:w.heap.size<wA.heap.size:=by rw [hwA,World.alloc];simp
 have htA:=ht.keep b0
 have hdA:=hd.keep b0
 go_enter Tryz.func57,Tryz.ntmps57
 go_wp2_with fail
 rw [←hwA]
 refine (BO' htA hdA hs hs2 (.inr hd0)).mono ?_
 rintro e w1 ⟨vg,rfl,hvg,b1⟩
 have ht1:=htA.keep b1
 have hd1:=hdA.keep b1
 go_wp2_with fail
 refine (AN ht1 hvg hs hg).mono ?_
 rintro e w2 ⟨va,rfl,hva,b2⟩
 have hd2:=hd1.keep b2
 have hg2:=hvg.keep b2
 go_wp2_with fail
 refine (AN hd2 hg2 hs2 hg).mono ?_
 rintro e w3 ⟨vb,rfl,hvb,b3⟩
 have ha3:=hva.keep b3
 have HF:=hid (Cz (neg:=neg) ha3 hvb (by rw [if_neg hq];exact hco))
 go_wp2_with fail
 refine (HF.out).mono ?_
 rintro e w4 ⟨v,rfl,hv,b4⟩
 rw [if_neg hq,HR.out] at hv
 have bA:=Ae' (Ae' (Ae' b1 b2) b3) b4
 have g4:=(bA.block _ hsz).trans gA
 have b9:=Ae' b0 bA
 obtain ⟨v1,v2,rfl,hv1,hv2⟩:=hv
 have z0:w4.frozen? ⟨w.heap.size,0,none⟩=false:=fR w4 _ 0 _ _ g4
 have e1:=heap_setCell_same w4 _ 0 _ _ (.bool (decide ((ratOf neg t d).num<0))) g4
 have c1:=b9.setCell (p:=⟨w.heap.size,0,none⟩) (nL _) (.bool (decide ((ratOf neg t d).num<0)))
 have e2:=heap_setCell_same _ _ 1 _ _ v1 e1
 have e3:=heap_setCell_same _ _ 2 _ _ v2 e2
 have c2:=c1.setCell (p:=⟨w.heap.size,1,none⟩) (nL _) v1
 have c3:=c2.setCell (p:=⟨w.heap.size,2,none⟩) (nL _) v2
 have q0:w4.cell? ⟨w.heap.size,0,none⟩=some (.bool false):=cR _ _ _ _ _ _ g4
 have hm1:=hv1
 have hm2:=hv2
 obtain ⟨A1,k1,rfl,-⟩:=hm1
 obtain ⟨A2,k2,rfl,-⟩:=hm2
 have q1:w4.cell? ⟨w.heap.size,1,none⟩=some (.slice none 0 0):=cR _ _ _ _ _ _ g4
 have z1:w4.frozen? ⟨w.heap.size,1,none⟩=false:=fR _ _ 1 _ _ g4
 have q2:w4.cell? ⟨w.heap.size,2,none⟩=some (.slice none 0 0):=cR _ _ _ _ _ _ g4
 have z2:w4.frozen? ⟨w.heap.size,2,none⟩=false:=fR _ _ 2 _ _ g4
 clear gA hwA
 have p1:=(Below.refl w.heap.size w4).setCell (p:=⟨w.heap.size,0,none⟩) (nL _) (.bool (decide ((ratOf neg t d).num<0)))
 have s1:=hv1.set g4 (row_plain _ _ _ _ _ _ _) p1
 have t1:=hv2.set g4 (row_plain _ _ _ _ _ _ _) p1
 have p2:=(Below.refl w.heap.size (w4.setCell ⟨w.heap.size,0,none⟩ (.bool (decide ((ratOf neg t d).num<0))))).setCell (p:=⟨w.heap.size,1,none⟩) (nL _) (.slice A1 (len (ratOf neg t d).num.natAbs) k1)
 have s2:=s1.set e1 (row_plain _ _ _ _ _ _ _) p2
 have t2:=t1.set e1 (row_plain _ _ _ _ _ _ _) p2
 have p3:=(Below.refl w.heap.size ((w4.setCell ⟨w.heap.size,0,none⟩ (.bool (decide ((ratOf neg t d).num<0)))).setCell ⟨w.heap.size,1,none⟩ (.slice A1 (len (ratOf neg t d).num.natAbs) k1))).setCell (p:=⟨w.heap.size,2,none⟩) (nL _) (.slice A2 (len (below (ratOf neg t d).den)) k2)
 have s3:=s2.set e2 (row_plain _ _ _ _ _ _ _) p3
 have t3:=t2.set e2 (row_plain _ _ _ _ _ _ _) p3
 have HFin:=hid (And.intro s3 (And.intro t3 c3))
 clear s1 t1 s2 t2 s3 t3 p1 p2 p3 c1 c2 c3
 go_wp2_with fail
 refine bP (v:=.agg #[.bool (decide ((ratOf neg t d).num<0)),.slice A1 (len (ratOf neg t d).num.natAbs) k1,.slice A2 (len (below (ratOf neg t d).den)) k2]) ?_ rfl ⟨_,rfl,⟨_,_,rfl,HFin.out.1,HFin.out.2.1⟩,HFin.out.2.2⟩
 simp [results,Tryz.results57,go_sem, *]
end Go.Proofs.YtflopjfnppolgaaGreatDoor
namespace Vx
def sgn (neg:Bool) (t:Nat):Int:=if neg then -(t:Int) else t
theorem Cp' (neg:Bool) (t:Nat):(sgn neg t).natAbs=t:=by cases neg <;> simp [sgn]
theorem Ir (neg:Bool) (t:Nat):sgn (!neg) t = -sgn neg t:=by cases neg <;> simp [sgn]
theorem Bx (n:Int):sgn (decide (n<0)) n.natAbs=n:=by
 unfold sgn
 split <;> rename_i h <;> simp at h <;> omega
theorem CN' (a b:Bool) (s t:Nat):sgn (a != b) (s*t)=sgn a s*sgn b t:=by
 cases a <;> cases b <;> simp [sgn,Int.neg_mul,Int.mul_neg]
theorem DA' (neg:Bool):sgn neg 0=0:=by cases neg <;> rfl
theorem Eb' {neg:Bool} {t h:Nat} (hd:h∣t):(h:Int)*sgn neg (t / h)=sgn neg t:=by
 obtain ⟨k,rfl⟩:=hd
 rcases Nat.eq_zero_or_pos h with h0 | h0
 · subst h0;simp [DA']
 · rw [Nat.mul_div_cancel_left _ h0]
   cases neg <;> simp [sgn,Int.mul_neg]
theorem CU' (a:Bool) (s t:Nat):sgn a (s*t)=sgn a s*t:=by
 cases a <;> simp [sgn,Int.neg_mul]
def Aa' (q:Rat):Nat:=max (len q.num.natAbs) (len q.den)
theorem Ai (q:Rat):len q.num.natAbs≤Aa' q:=Nat.le_max_left _ _
theorem Ai' (q:Rat):len q.den≤Aa' q:=Nat.le_max_right _ _
theorem Ec (q:Rat):1≤Aa' q:=by have:=Ai' q;have:=Ak.2 q.den_pos;omega
theorem GN' {q:Rat} {n:Nat} (h1:len q.num.natAbs≤n) (h2:len q.den≤n):Aa' q≤n:=Nat.max_le.2 ⟨h1,h2⟩
theorem GO (n:Int) (d:Nat):Aa' (mkRat n d)≤max (len n.natAbs) (max (len d) 1):=by
 apply GN'
 · rw [Rat.num_mkRat]
   split
   · simp [AG']
   · refine Nat.le_trans (Am ?_) (Nat.le_max_left _ _)
     have:(n / ((d.gcd n.natAbs:Nat):Int)).natAbs=n.natAbs / d.gcd n.natAbs:=by
       rw [Int.natAbs_ediv_of_dvd (Int.ofNat_dvd_left.2 (Nat.gcd_dvd_right _ _))];rfl
     rw [this]
     exact Nat.div_le_self _ _
 · rw [Rat.den_mkRat]
   split
   · rw [BC];omega
   · have:=Am (Nat.div_le_self d (d.gcd n.natAbs));omega
theorem Dm' (x:Rat):Aa' (-x)=Aa' x:=by simp [Aa']
theorem B0' (x y:Rat):Aa' (x*y)≤Aa' x+Aa' y:=by
 rw [Rat.mul_def']
 refine Nat.le_trans (GO _ _) ?_
 rw [Int.natAbs_mul]
 have:=At' x.num.natAbs y.num.natAbs
 have:=At' x.den y.den
 have:=Ai x;have:=Ai y;have:=Ai' x;have:=Ai' y;have:=Ec x
 omega
theorem FL {a b c d:Nat}:len (a*d+b*c)≤max (len a) (len c)+max (len b) (len d)+1:=by
 have h1:=BM (a*d) (b*c)
 have h2:=At' a d
 have h3:=At' b c
 omega
theorem A9' (x y:Rat):Aa' (x+y)≤Aa' x+Aa' y+1:=by
 rw [Rat.add_def']
 refine Nat.le_trans (GO _ _) ?_
 have h1:len (x.num*y.den+y.num*x.den).natAbs≤Aa' x+Aa' y+1:=by
   refine Nat.le_trans (Am (y:=x.num.natAbs*y.den+y.num.natAbs*x.den) ?_) FL
   refine Nat.le_trans (Int.natAbs_add_le _ _) ?_
   rw [Int.natAbs_mul,Int.natAbs_mul]
   exact Nat.le_refl _
 have:=At' x.den y.den
 have:=Ai' x;have:=Ai' y
 have:=Ec x
 omega
theorem AC' (x y:Rat):Aa' (x - y)≤Aa' x+Aa' y+1:=by
 rw [Rat.sub_eq_add_neg]
 have:=A9' x (-y)
 rwa [Dm'] at this
theorem FL' (x:Rat):Aa' x⁻¹≤Aa' x:=by
 apply GN'
 · rw [Rat.num_inv,Int.natAbs_mul]
   have h:x.num.sign.natAbs≤1:=by rw [Int.natAbs_sign];split <;> omega
   have:=Nat.mul_le_mul_right x.den h
   refine Nat.le_trans (Am (y:=x.den) ?_) (Ai' x)
   simpa using this
 · rw [Rat.den_inv]
   split
   · rw [BC];exact Ec x
   · exact Ai x
theorem AZ (x y:Rat):Aa' (x / y)≤Aa' x+Aa' y:=by
 rw [Rat.div_def]
 have:=B0' x y⁻¹
 have:=FL' y
 omega
theorem Et {x y:Rat} {neg:Bool} {t g h:Nat} (hg:g=Nat.gcd x.den y.den) (ht:sgn neg t=x.num*(y.den / g:Nat)+y.num*(x.den / g:Nat)) (hh:h=Nat.gcd t g) :
   (t / h).Coprime (x.den / g*(y.den / h))∧mkRat (sgn neg (t / h)) (x.den / g*(y.den / h))=x+y∧0<g∧0<h:=by
 have e:=Rat.add.aux x y hg rfl rfl
 simp only at e
 rw [←ht,Cp',←hh] at e
 have g0:0<g:=hg ▸ Nat.gcd_pos_of_pos_left _ x.den_pos
 have gx:g∣x.den:=hg ▸ Nat.gcd_dvd_left _ _
 have gy:g∣y.den:=hg ▸ Nat.gcd_dvd_right _ _
 have hgd:h∣g:=hh ▸ Nat.gcd_dvd_right _ _
 have htd:h∣t:=hh ▸ Nat.gcd_dvd_left _ _
 have h0:0<h:=hh ▸ Nat.gcd_pos_of_pos_right _ g0
 have hy:h∣y.den:=Nat.dvd_trans hgd gy
 have e2:x.den / g*(y.den / h)=x.den / g*y.den / h:=(Nat.mul_div_assoc _ hy).symm
 have d0:0<x.den / g*y.den:=Nat.mul_pos (Nat.div_pos (Nat.le_of_dvd x.den_pos gx) g0) y.den_pos
 refine ⟨?_,?_,g0,h0⟩
 · rw [e2,e]
   exact Nat.coprime_div_gcd_div_gcd (Nat.gcd_pos_of_pos_right _ d0)
 · rw [Rat.add_def']
   have s1:mkRat (sgn neg (t / h)) (x.den / g*(y.den / h))=mkRat (sgn neg t) (x.den / g*y.den):=by
     rw [←Rat.mkRat_mul_left (a:=h) (by omega),Eb' htd,e2,Nat.mul_div_cancel']
     exact Nat.dvd_trans hy (Nat.dvd_mul_left _ _)
   rw [s1,←Rat.mkRat_mul_left (a:=g) (by omega),ht]
   have ex:((g:Nat):Int)*((x.den / g:Nat):Int)=x.den:=by rw [←Int.natCast_mul,Nat.mul_div_cancel' gx]
   have ey:((g:Nat):Int)*((y.den / g:Nat):Int)=y.den:=by rw [←Int.natCast_mul,Nat.mul_div_cancel' gy]
   congr 1
   · rw [Int.mul_add,Int.mul_left_comm,ey,Int.mul_left_comm,ex]
   · rw [←Nat.mul_assoc,Nat.mul_div_cancel' gx]
theorem Et' {x y:Rat} {g h:Nat} (hg:g=Nat.gcd x.num.natAbs y.den) (hh:h=Nat.gcd y.num.natAbs x.den) :
   (x.num.natAbs / g*(y.num.natAbs / h)).Coprime (x.den / h*(y.den / g)) ∧
   mkRat (sgn (decide (x.num<0) != decide (y.num<0)) (x.num.natAbs / g*(y.num.natAbs / h))) (x.den / h*(y.den / g))=x*y∧0<g∧0<h:=by
 have g0:0<g:=hg ▸ Nat.gcd_pos_of_pos_right _ y.den_pos
 have h0:0<h:=hh ▸ Nat.gcd_pos_of_pos_right _ x.den_pos
 have g1:g∣x.num.natAbs:=hg ▸ Nat.gcd_dvd_left _ _
 have g2:g∣y.den:=hg ▸ Nat.gcd_dvd_right _ _
 have h1:h∣y.num.natAbs:=hh ▸ Nat.gcd_dvd_left _ _
 have h2:h∣x.den:=hh ▸ Nat.gcd_dvd_right _ _
 refine ⟨?_,?_,g0,h0⟩
 · refine Nat.Coprime.mul_left (Nat.Coprime.mul_right ?_ ?_) (Nat.Coprime.mul_right ?_ ?_)
   · exact (x.reduced.coprime_div_left g1).coprime_div_right h2
   · rw [hg];exact Nat.coprime_div_gcd_div_gcd (hg ▸ g0)
   · rw [hh];exact Nat.coprime_div_gcd_div_gcd (hh ▸ h0)
   · exact (y.reduced.coprime_div_left h1).coprime_div_right g2
 · rw [Rat.mul_def',CN',←Rat.mkRat_mul_left (a:=g*h) (by have:=Nat.mul_pos g0 h0;omega)]
   congr 1
   · have e1:((g:Nat):Int)*sgn (decide (x.num<0)) (x.num.natAbs / g)=x.num:=by rw [Eb' g1,Bx]
     have e2:((h:Nat):Int)*sgn (decide (y.num<0)) (y.num.natAbs / h)=y.num:=by rw [Eb' h1,Bx]
     generalize sgn (decide (x.num<0)) (x.num.natAbs / g)=p at e1 ⊢
     generalize sgn (decide (y.num<0)) (y.num.natAbs / h)=q at e2 ⊢
     rw [Int.natCast_mul,←e1,←e2]
     simp only [Int.mul_assoc,Int.mul_left_comm]
   · have e1:=Nat.mul_div_cancel' h2
     have e2:=Nat.mul_div_cancel' g2
     generalize x.den / h=p at e1 ⊢
     generalize y.den / g=q at e2 ⊢
     rw [←e1,←e2]
     simp only [Nat.mul_assoc,Nat.mul_left_comm]
theorem Ht' {x y:Rat} (hx:x.den=1) (hy:y.den=1):mkRat (x.num+y.num) 1=x+y:=by
 rw [Rat.add_def',hx,hy];simp
theorem Hu {x y:Rat} (hx:x.den=1) (hy:y.den=1):mkRat (x.num*y.num) 1=x*y:=by
 rw [Rat.mul_def',hx,hy]
theorem GO' (y:Rat) (h:y≠0):y.den.Coprime y.num.natAbs∧mkRat (sgn (decide (y.num<0)) y.den) y.num.natAbs=y⁻¹:=by
 refine ⟨y.reduced.symm,?_⟩
 have hn:y.num≠0:=fun e=>h (Rat.num_eq_zero.1 e)
 apply Rat.ext
 · rw [Rat.num_inv,←Rat.mk_eq_mkRat _ _ (by omega) (by rw [Cp'];exact y.reduced.symm)]
   show sgn _ _=_
   rcases Int.lt_or_gt_of_ne hn with h1 | h1
   · rw [Int.sign_eq_neg_one_of_neg h1];simp [sgn,h1]
   · rw [Int.sign_eq_one_of_pos h1];simp [sgn,Int.not_lt.2 (Int.le_of_lt h1)]
 · rw [Rat.den_inv,if_neg hn,←Rat.mk_eq_mkRat _ _ (by omega) (by rw [Cp'];exact y.reduced.symm)]
end Vx
namespace Go.Proofs.YtflopjfnppolgaaGreatDoor
open Lib (hid)
open Go.RowKit
open Vx
def cur (w:World) (a:Addr):Value:=(w.cell? a).getD (.bool false)
def CF (cs:Array Value):Prop:=∀ (i:Nat) (k:IntKind) (n:Int),cs[i]?≠some (Value.int k n)
def Aq' (n:Nat) (T:TypeId) (wB:World) (G:Nat) (w:World):Prop :=
  Below G wB w∧∃ cs:Array Value,cs.size=n∧CF cs∧w.heap[G]?=some (.cells cs T (0,0))
def An' (wS w:World):Prop:=∀ v x,Nt wS v x→Nt w v x
def An (wB:World) (G:Nat) (wS w:World):Prop :=
  (∀ b o,b<G→w.cell? ⟨b,o,none⟩=wB.cell? ⟨b,o,none⟩)∧w.cell? ⟨G,0,none⟩=some (cur w ⟨G,0,none⟩)∧w.cell? ⟨G,1,none⟩=some (cur w ⟨G,1,none⟩)∧w.cell? ⟨G,2,none⟩=some (cur w ⟨G,2,none⟩) ∧
    w.frozen? ⟨G,0,none⟩=false∧w.frozen? ⟨G,1,none⟩=false∧w.frozen? ⟨G,2,none⟩=false∧Aq' 3 35 wB G w∧An' wS w
theorem B9' {w:World} {G:Nat} {cs:Array Value} {T:TypeId} (h:w.heap[G]?=some (.cells cs T (0,0))) {i:Nat} (hi:i<cs.size):w.cell? ⟨G,i,none⟩=some (cur w ⟨G,i,none⟩):=by
 unfold cur
 rw [cR w G i _ _ _ h]
 simp [hi]
theorem Au {G:Nat} {wB w:World} (h:Below G wB w):∀ b o,b<G→w.cell? ⟨b,o,none⟩=wB.cell? ⟨b,o,none⟩:=fun b o hb=>h.cell (p:=⟨b,o,none⟩) hb
theorem An'.refl (w:World):An' w w:=fun _ _ h=>h
theorem An'.call {wS w w':World} (h:An' wS w) (hb:Below w.heap.size w w'):An' wS w':=fun v x hv=>(h v x hv).keep hb
theorem An'.num {wS w:World} {v:Value} {q:Rat} (h:An' wS w) (hv:Ac' wS v q):Ac' w v q:=by
 obtain ⟨v1,v2,h1,h2,h3⟩:=hv
 exact ⟨v1,v2,h1,h _ _ h2,h _ _ h3⟩
theorem Aq'.held {wB wS w:World} {G:Nat} (h:Aq' 3 35 wB G w) (hS:An' wS w):An wB G wS w:=by
 obtain ⟨hb,cs,hs,hp,hg⟩:=id h
 exact ⟨Au hb,B9' hg (by omega),B9' hg (by omega),B9' hg (by omega),fR w G 0 _ _ hg,fR w G 1 _ _ hg,fR w G 2 _ _ hg,h,hS⟩
theorem An.kept {wB wS w:World} {G:Nat} (h:An wB G wS w):Aq' 3 35 wB G w:=h.2.2.2.2.2.2.2.1
theorem An.stay {wB wS w:World} {G:Nat} (h:An wB G wS w):An' wS w:=h.2.2.2.2.2.2.2.2
theorem Aq'.block_lt {n:Nat} {T:TypeId} {wB w:World} {G:Nat} (h:Aq' n T wB G w):G<w.heap.size:=by
 obtain ⟨_,cs,_,_,hg⟩:=h
 exact (gE.1 hg).1
theorem Aq'.call {n:Nat} {T:TypeId} {wB w w':World} {G:Nat} (h:Aq' n T wB G w) (hb:Below w.heap.size w w'):Aq' n T wB G w':=by
 have hl:=h.block_lt
 obtain ⟨h1,cs,h2,h3,h4⟩:=h
 exact ⟨h1.trans (hb.mono (Nat.le_of_lt hl)),cs,h2,h3,(hb.block _ hl).trans h4⟩
theorem Aq'.drew {n:Nat} {T:TypeId} {wB w:World} {G:Nat} (h:Aq' n T wB G w):Aq' n T wB G w.drew:=h.call ⟨rfl,rfl,rfl,nL _,fun _ _=>rfl⟩
theorem Aq'.start {n:Nat} {T:TypeId} {w:World} {G:Nat} {cs:Array Value} (hs:cs.size=n) (hp:CF cs) (hg:w.heap[G]?=some (.cells cs T (0,0))):Aq' n T w G w:=⟨Below.refl _ _,cs,hs,hp,hg⟩
theorem GP {cs:Array Value} (h:CF cs) (i:Nat) {v:Value} (hv:∀ k n,v≠.int k n):CF (cs.setIfInBounds i v):=by
 intro j k n e
 rw [Array.getElem?_setIfInBounds] at e
 split at e
 · split at e
   · exact hv k n (by simpa using e)
   · cases e
 · exact h j k n e
theorem Aq'.set {n:Nat} {T:TypeId} {wB w:World} {G i:Nat} {v:Value} (h:Aq' n T wB G w) (hv:∀ k n,v≠.int k n):Aq' n T wB G (w.setCell ⟨G,i,none⟩ v):=by
 obtain ⟨h1,cs,h2,h3,h4⟩:=h
 exact ⟨h1.setCell (p:=⟨G,i,none⟩) (nL _) v,_,by rw [Array.size_setIfInBounds];exact h2,GP h3 i hv,heap_setCell_same w G i _ _ v h4⟩
theorem An.call {wB wS w w':World} {G:Nat} (h:An wB G wS w) (hb:Below w.heap.size w w'):An wB G wS w':=(h.kept.call hb).held (h.stay.call hb)
theorem Aq'.begin {wB w:World} {G:Nat} (h:Aq' 3 35 wB G w):An wB G w w.drew:=h.drew.held (fun _ _ hv=>hv.keep ⟨rfl,rfl,rfl,nL _,fun _ _=>rfl⟩)
theorem AU (b:Bool):∀ k n,Value.bool b≠.int k n:=fun _ _ h=>by cases h
theorem Ax (A:Option Addr) (n c:Nat):∀ k m,Value.slice A n c≠.int k m:=fun _ _ h=>by cases h
theorem Nt.put {w:World} {G i x:Nat} {v u:Value} {n:Nat} {T:TypeId} {wB:World} (h:Nt w v x) (hk:Aq' n T wB G w):Nt (w.setCell ⟨G,i,none⟩ u) v x:=by
 obtain ⟨_,cs,_,hp,hg⟩:=hk
 exact h.set (b:=G) (o:=i) hg hp ((Below.refl _ _).setCell (p:=⟨G,i,none⟩) (nL _) u)
theorem Ac'.put {w:World} {G i:Nat} {v u:Value} {q:Rat} {n:Nat} {T:TypeId} {wB:World} (h:Ac' w v q) (hk:Aq' n T wB G w):Ac' (w.setCell ⟨G,i,none⟩ u) v q:=by
 obtain ⟨v1,v2,h1,h2,h3⟩:=h
 exact ⟨v1,v2,h1,h2.put hk,h3.put hk⟩
theorem An'.put {wS w:World} {G i:Nat} {u:Value} {n:Nat} {T:TypeId} {wB:World} (h:An' wS w) (hk:Aq' n T wB G w):An' wS (w.setCell ⟨G,i,none⟩ u):=fun v x hv=>(h v x hv).put hk
theorem An.store {wB wS w:World} {G n1 c1 n2 c2:Nat} {b:Bool} {A1 A2:Option Addr} (h:An wB G wS w) :
   An wB G wS (((w.setCell ⟨G,0,none⟩ (.bool b)).setCell ⟨G,1,none⟩ (.slice A1 n1 c1)).setCell ⟨G,2,none⟩ (.slice A2 n2 c2)):=by
 have k0:=h.kept
 have k1:=k0.set (i:=0) (AU b)
 have k2:=k1.set (i:=1) (Ax A1 n1 c1)
 exact (k2.set (i:=2) (Ax A2 n2 c2)).held (((h.stay.put k0).put k1).put k2)
theorem C5' {w:World} {G:Nat} {T:TypeId} {cs:Array Value} (hs:cs.size=3) (hg:w.heap[G]?=some (.cells cs T (0,0))) (a b c:Value) :
   (((w.setCell ⟨G,0,none⟩ a).setCell ⟨G,1,none⟩ b).setCell ⟨G,2,none⟩ c).heap[G]?=some (.cells #[a,b,c] T (0,0)):=by
 have g1:=heap_setCell_same w G 0 _ _ a hg
 have g2:=heap_setCell_same _ G 1 _ _ b g1
 have g3:=heap_setCell_same _ G 2 _ _ c g2
 rw [g3]
 obtain ⟨x,y,z,rfl⟩:∃ x y z,cs=#[x,y,z]:=by
   obtain ⟨l⟩:=cs
   match l,hs with
   | [x,y,z],_=>exact ⟨x,y,z,rfl⟩
 rfl
theorem Ac'.opened {w:World} {v:Value} {q:Rat} (h:Ac' w v q):∃ A1 c1 A2 c2,v=.agg #[.bool (decide (q.num<0)),.slice A1 (len q.num.natAbs) c1,.slice A2 (len (below q.den)) c2] ∧
   Nt w (.slice A1 (len q.num.natAbs) c1) q.num.natAbs∧Nt w (.slice A2 (len (below q.den)) c2) (below q.den):=by
 obtain ⟨v1,v2,rfl,h1,h2⟩:=h
 obtain ⟨A1,c1,rfl,h3⟩:=id h1
 obtain ⟨A2,c2,rfl,h4⟩:=id h2
 exact ⟨A1,c1,A2,c2,rfl,h1,h2⟩
theorem An.done {wB wS w:World} {G n1 c1 n2 c2:Nat} {b:Bool} {A1 A2:Option Addr} {q:Rat} (h:An wB G wS w) (hv:Ac' w (.agg #[.bool b,.slice A1 n1 c1,.slice A2 n2 c2]) q) :
   Ac' (((w.setCell ⟨G,0,none⟩ (.bool b)).setCell ⟨G,1,none⟩ (.slice A1 n1 c1)).setCell ⟨G,2,none⟩ (.slice A2 n2 c2)) (.agg #[.bool b,.slice A1 n1 c1,.slice A2 n2 c2]) q ∧
   Below G wB (((w.setCell ⟨G,0,none⟩ (.bool b)).setCell ⟨G,1,none⟩ (.slice A1 n1 c1)).setCell ⟨G,2,none⟩ (.slice A2 n2 c2)) ∧
   (((w.setCell ⟨G,0,none⟩ (.bool b)).setCell ⟨G,1,none⟩ (.slice A1 n1 c1)).setCell ⟨G,2,none⟩ (.slice A2 n2 c2)).heap[G]?=some (.cells #[.bool b,.slice A1 n1 c1,.slice A2 n2 c2] 35 (0,0)):=by
 have k0:=h.kept
 have k1:=k0.set (i:=0) (AU b)
 have k2:=k1.set (i:=1) (Ax A1 n1 c1)
 have k3:=k2.set (i:=2) (Ax A2 n2 c2)
 refine ⟨((hv.put k0).put k1).put k2,k3.1,?_⟩
 obtain ⟨_,cs,hs,_,hg⟩:=k0
 exact C5' hs hg _ _ _
theorem Ak' {w wB w':World} {G:Nat} (h:Below w.heap.size w wB) (hG:w.heap.size≤G) (k:Below G wB w'):Below w.heap.size w w':=h.trans (k.mono hG)
theorem A1' (b:Bool) (A1 A2:Option Addr) (n1 c1 n2 c2:Nat):CF #[.bool b,.slice A1 n1 c1,.slice A2 n2 c2]:=row_plain _ _ _ _ _ _ _
theorem AU' {w:World} {v:Value} {q:Rat} (h:Ac' w v q) (hs:Aa' q≤1099511627776):Calls Tryz.prog 58 #[v] w (Az' w q):=by
 obtain ⟨A1,c1,A2,c2,rfl,h1,h2⟩:=h.opened
 have hl1:=Ai q
 have hl2:len (below q.den)≤1099511627776:=by
   have:=Ai' q
   have:len (below q.den)≤len q.den:=Am (by unfold below;split <;> omega)
   omega
 obtain ⟨wB,hwB⟩:=eX ((w.alloc (.cells #[.bool (decide (q.num<0)),.slice A1 (len q.num.natAbs) c1,.slice A2 (len (below q.den)) c2] 35)).alloc (.cells #[.bool false,.slice none 0 0,.slice none 0 0] 35))
 have b0:Below w.heap.size w wB:=by rw [hwB];exact ((Below.refl _ _).alloc (nL _) _).alloc (by simp) _
 have gB:wB.heap[w.heap.size+1]?=some (.cells #[.bool false,.slice none 0 0,.slice none 0 0] 35 (0,0)):=by
   rw [hwB]
   have:=hA_ (w.alloc (.cells #[.bool (decide (q.num<0)),.slice A1 (len q.num.natAbs) c1,.slice A2 (len (below q.den)) c2] 35)) (.cells #[.bool false,.slice none 0 0,.slice none 0 0] 35)
   simpa using this
 have gA:wB.heap[w.heap.size]?=some (.cells #[.bool (decide (q.num<0)),.slice A1 (len q.num.natAbs) c1,.slice A2 (len (below q.den)) c2] 35 (0,0)):=by
   rw [hwB,Below.heap_alloc _ _ _ (by simp)]
   exact hA_ w _
 obtain ⟨k0,k1,k2⟩:=Ad' gA
 have HX:=fun (w':World) (hk:An wB (w.heap.size+1) wB w')=>hid (DJ (h1.keep (Ak' b0 (Nat.le_succ _) hk.kept.1)) (nT hl1 (nT hs (by decide))))
 have HY:=fun (w':World) (hk:An wB (w.heap.size+1) wB w')=>hid (DJ (h2.keep (Ak' b0 (Nat.le_succ _) hk.kept.1)) (nT hl2 (by decide)))
 have H0:=(Aq'.start rfl (A1' _ _ _ _ _ _ _) gB).begin
 have hlt:w.heap.size<w.heap.size+1:=Nat.lt_succ_self _
 clear hs hl1 hl2 gA gB
 go_enter Tryz.func58,Tryz.ntmps58
 go_wp2_with fail
 rw [←hwB]
 clear hwB
 go_region_held3 (fun w'=>(∀ b o,b<w.heap.size+1→w'.cell? ⟨b,o,none⟩=wB.cell? ⟨b,o,none⟩)∧w'.cell? ⟨w.heap.size+1,0,none⟩=some (cur w' ⟨w.heap.size+1,0,none⟩)∧w'.cell? ⟨w.heap.size+1,1,none⟩=some (cur w' ⟨w.heap.size+1,1,none⟩)∧w'.cell? ⟨w.heap.size+1,2,none⟩=some (cur w' ⟨w.heap.size+1,2,none⟩)∧w'.frozen? ⟨w.heap.size+1,0,none⟩=false∧w'.frozen? ⟨w.heap.size+1,1,none⟩=false∧w'.frozen? ⟨w.heap.size+1,2,none⟩=false∧Aq' 3 35 wB (w.heap.size+1) w'∧An' wB w')
   (first | exact H0 | exact hk2 | exact hk1 | exact hk2.store)
   (first | (go_at_call_of 95 (Value.slice A1 (len q.num.natAbs) c1);refine ((HX _ ?_).out).mono ?_;assumption;rintro e w1 ⟨v1,rfl,hv1,hbl1⟩;obtain ⟨B1,e1,rfl,-⟩:=id hv1;have hk1:=An.call (by assumption) hbl1) | (go_at_call_of 95 (Value.slice A2 (len (below q.den)) c2);refine ((HY _ ?_).out).mono ?_;assumption;rintro e w2 ⟨v2,rfl,hv2,hbl2⟩;obtain ⟨B2,e2,rfl,-⟩:=id hv2;have hk2:=An.call (by assumption) hbl2))
 have HD:=hk2.done (q:=q) ⟨_,_,rfl,hv1.keep hbl2,hv2⟩
 obtain ⟨d1,d2,d3⟩:=HD
 obtain ⟨r0,r1,r2⟩:=Ad' d3
 go_wp2_with fail
 refine bP (v:=.agg #[.bool (decide (q.num<0)),.slice B1 (len q.num.natAbs) e1,.slice B2 (len (below q.den)) e2]) ?_ rfl ⟨_,rfl,d1,Ak' b0 (Nat.le_succ _) d2⟩
 simp [results,Tryz.results58,go_sem,r0,r1,r2]
theorem DN' (w:World) (o1 o2:Obj):Below w.heap.size w ((w.alloc o1).alloc o2)∧((w.alloc o1).alloc o2).heap[w.heap.size]?=some o1∧((w.alloc o1).alloc o2).heap[w.heap.size+1]?=some o2:=by
 refine ⟨((Below.refl _ _).alloc (nL _) _).alloc (by simp) _,?_,?_⟩
 · rw [Below.heap_alloc _ _ _ (by simp)];exact hA_ w _
 · have:=hA_ (w.alloc o1) o2
   simpa using this
theorem Ii (w:World) (o1 o2 o3:Obj):Below w.heap.size w (((w.alloc o1).alloc o2).alloc o3)∧(((w.alloc o1).alloc o2).alloc o3).heap[w.heap.size]?=some o1 ∧
   (((w.alloc o1).alloc o2).alloc o3).heap[w.heap.size+1]?=some o2∧(((w.alloc o1).alloc o2).alloc o3).heap[w.heap.size+2]?=some o3:=by
 obtain ⟨h1,h2,h3⟩:=DN' w o1 o2
 refine ⟨h1.alloc (by simp;omega) _,?_,?_,?_⟩
 · rw [Below.heap_alloc _ _ _ (by simp;omega)];exact h2
 · rw [Below.heap_alloc _ _ _ (by simp)];exact h3
 · have:=hA_ ((w.alloc o1).alloc o2) o3
   simpa using this
theorem AL' {w u:World} {o1 o2:Obj} (h:u=(w.alloc o1).alloc o2):Below w.heap.size w u∧u.heap[w.heap.size]?=some o1∧u.heap[w.heap.size+1]?=some o2:=h ▸ DN' w o1 o2
theorem AC {w u:World} {o1 o2 o3:Obj} (h:u=((w.alloc o1).alloc o2).alloc o3):Below w.heap.size w u∧u.heap[w.heap.size]?=some o1∧u.heap[w.heap.size+1]?=some o2∧u.heap[w.heap.size+2]?=some o3:=h ▸ Ii w o1 o2 o3
theorem DB' {w:World} (n:Int) (h1 : -9223372036854775808≤n) (h2:n≤9223372036854775807):Calls Tryz.prog 56 #[.int .i64 n] w (AI w n.natAbs):=by
 have HN:=fun (x:Nat) (hx:x<18446744073709551616)=>hid (Eo' (w:=w) x hx)
 rcases Int.lt_or_le n 0 with hn | hn
 · have e1:IntKind.u64.wrap (-(IntKind.u64.wrap n))=((n.natAbs:Nat):Int):=by
     simp only [IntKind.wrap_u64];omega
   have E1:=hid e1
   have HX:=HN n.natAbs (by omega)
   clear e1 HN
   go_enter Tryz.func56,Tryz.ntmps56
   go_upto_region 2 with fail
   go_wp2_with (go_at_call 94;rw [E1.out];refine (HX.out).mono ?_;rintro e w1 ⟨v,rfl,hv,b1⟩)
   go_ret
   exact ⟨_,rfl,hv,b1⟩
 · obtain ⟨m,rfl⟩:∃ m:Nat,n=m:=⟨n.toNat,by omega⟩
   have HX:=HN m (by omega)
   rw [Int.natAbs_natCast]
   clear HN
   go_enter Tryz.func56,Tryz.ntmps56
   go_wp2_with (go_at_call 94;refine (HX.out).mono ?_;rintro e w1 ⟨v,rfl,hv,b1⟩)
   go_ret
   exact ⟨_,rfl,hv,b1⟩
theorem GP':below 1=0:=rfl
theorem Eu {w:World} (n:Int) (h1 : -9223372036854775808≤n) (h2:n≤9223372036854775807):Calls Tryz.prog 18 #[.int .i64 n] w (Az' w (n:Rat)):=by
 obtain ⟨wB,hwB⟩:=eX (w.alloc (.cells #[.bool false,.slice none 0 0,.slice none 0 0] 35))
 have b0:Below w.heap.size w wB:=by rw [hwB];exact (Below.refl _ _).alloc (nL _) _
 have gB:wB.heap[w.heap.size]?=some (.cells #[.bool false,.slice none 0 0,.slice none 0 0] 35 (0,0)):=by rw [hwB];exact hA_ w _
 have H0:=(Aq'.start rfl (A1' _ _ _ _ _ _ _) gB)
 have HS:=hid (DB' (w:=wB) n h1 h2)
 clear gB
 go_enter Tryz.func18,Tryz.ntmps18
 go_wp2_with fail
 rw [←hwB]
 clear hwB
 refine (HS.out).mono ?_
 rintro e w1 ⟨v,rfl,hv,b1⟩
 obtain ⟨B1,e1,rfl,-⟩:=id hv
 have hk:=(H0.call b1).held (An'.refl _)
 obtain ⟨-,c0,c1,c2,f0,f1,f2,-⟩:=id hk
 have HD:=hk.done (q:=(n:Rat)) (b:=decide (n<0)) (A1:=B1) (n1:=len n.natAbs) (c1:=e1) (A2:=none) (n2:=0) (c2:=0) ⟨_,_,rfl,hv,by rw [Rat.den_intCast,GP'];exact Nt.zero _⟩
 obtain ⟨d1,d2,d3⟩:=HD
 obtain ⟨r0,r1,r2⟩:=Ad' d3
 have HD:=hid (And.intro d1 d2)
 clear d1 d2 d3
 go_wp2_with fail
 refine bP (v:=.agg #[.bool (decide (n<0)),.slice B1 (len n.natAbs) e1,.slice none 0 0]) ?_ rfl ⟨_,rfl,HD.out.1,Ak' b0 (nL _) HD.out.2⟩
 simp [results,Tryz.results18,go_sem,r0,r1,r2]
def IQ (w:World) (z:Int) (e:Ending) (w':World):Prop :=
  ∃ neg t v,e=.returned (.tuple #[.bool neg,v])∧Nt w' v t∧sgn neg t=z∧Below w.heap.size w w'
theorem BD' {a b:Nat} (h:a<b):Ar a b = -1:=by unfold Ar;simp [h]
theorem E7' (neg:Bool) (a b:Nat):sgn neg (a+b)=sgn neg a+sgn neg b:=by cases neg <;> simp [sgn];omega
theorem FM (neg:Bool) {a b:Nat} (h:b≤a):sgn neg (a - b)=sgn neg a+sgn (!neg) b:=by cases neg <;> simp [sgn] <;> omega
theorem Cn {w:World} {na nb:Bool} {a b:Nat} {va vb:Value} (ha:Nt w va a) (hb:Nt w vb b) (hs:len a≤8796093022208) (ht:len b≤8796093022208) :
   Calls Tryz.prog 59 #[.bool na,va,.bool nb,vb] w (IQ w (sgn na a+sgn nb b)):=by
 by_cases hn:na=nb
 · subst hn
   have e0:(na==na)=true:=by cases na <;> rfl
   have HX:=hid (D6' ha hb hs ht)
   have HZ:=hid (E7' na a b)
   go_enter Tryz.func59,Tryz.ntmps59
   go_wp2_with (go_at_call 96;refine (HX.out).mono ?_;rintro e w1 ⟨v,rfl,hv,b1⟩)
   go_ret2
   exact ⟨_,_,_,rfl,hv,HZ.out,b1⟩
 · have e0:(na==nb)=false:=by cases na <;> cases nb <;> simp_all
   have en:nb = !na:=by cases na <;> cases nb <;> simp_all
   have EN:=hid en
   have HC:=hid (Bs' ha hb)
   clear hn en
   rcases Nat.lt_or_ge a b with hlt | hge
   · have ec:decide (Ar a b<0)=true:=by rw [BD' hlt];rfl
     have hc9:Ar a b<0:=by rw [BD' hlt];decide
     have HZ:=hid (FM nb (Nat.le_of_lt hlt))
     have HX:=fun k=>hid (Dl' (hb.drewN k) (ha.drewN k) ht (Nat.le_of_lt hlt))
     generalize hcc:Ar a b=cc at *
     clear hcc
     go_enter Tryz.func59,Tryz.ntmps59
     go_wp2_with (first | (go_at_call 92;refine (HC.out).mono ?_;rintro e w1 ⟨rfl,k,rfl⟩) | (go_at_call 97;refine ((HX _).out).mono ?_;rintro e w1 ⟨v,rfl,hv,b1⟩))
     go_ret2
     refine ⟨_,_,_,rfl,hv,?_,(Aw w _).trans b1⟩
     rw [HZ.out,EN.out,Bool.not_not,Int.add_comm]
   · have hc9:¬ Ar a b<0:=by unfold Ar;split <;> (try split) <;> omega
     have HZ:=hid (FM na hge)
     have HX:=fun k=>hid (Dl' (ha.drewN k) (hb.drewN k) hs hge)
     generalize hcc:Ar a b=cc at *
     clear hcc
     go_enter Tryz.func59,Tryz.ntmps59
     go_wp2_with (first | (go_at_call 92;refine (HC.out).mono ?_;rintro e w1 ⟨rfl,k,rfl⟩) | (go_at_call 97;refine ((HX _).out).mono ?_;rintro e w1 ⟨v,rfl,hv,b1⟩))
     go_ret2
     refine ⟨_,_,_,rfl,hv,?_,(Aw w _).trans b1⟩
     rw [HZ.out,EN.out]
end Go.Proofs.YtflopjfnppolgaaGreatDoor
