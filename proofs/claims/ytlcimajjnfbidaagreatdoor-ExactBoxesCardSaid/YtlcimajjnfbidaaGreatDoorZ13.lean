/-
  Contracts of the functions that the law calls, for every input (NumI).
-/
import Derived.Test.YtlcimajjnfbidaaGreatDoorZ00
import Derived.Test.YtlcimajjnfbidaaGreatDoorZ12
set_option linter.all false
set_option maxRecDepth 100000
set_option maxHeartbeats 40000000
namespace Go.Proofs.YtlcimajjnfbidaaGreatDoor
open Lib (hid)
open Go.RowKit
open Vx
def cmpQ (x y:Rat):Int:=if x<y then -1 else if x=y then 0 else 1
theorem B6' (x y:Rat):cmpQ x y=AX' (x.num*y.den) (y.num*x.den):=by
 unfold cmpQ AX'
 simp only [Rat.lt_iff,Rat.eq_iff_mul_eq_mul]
theorem Du' (a b:Nat):AX' ((a:Nat):Int) ((b:Nat):Int)=Ap a b:=by
 unfold AX' Ap
 simp only [Int.ofNat_lt,Int.natCast_inj]
theorem Hr' {x y:Rat} (hx:0<x.num) (hy:0<y.num):cmpQ x y=Ap (x.num.natAbs*y.den) (y.num.natAbs*x.den):=by
 rw [B6',←Du',Int.natCast_mul,Int.natCast_mul]
 rw [show ((x.num.natAbs:Nat):Int)=x.num by omega,show ((y.num.natAbs:Nat):Int)=y.num by omega]
theorem Hs' {x y:Rat} (hx:x.num<0) (hy:y.num<0):cmpQ x y=Ap (y.num.natAbs*x.den) (x.num.natAbs*y.den):=by
 rw [B6',←Du',Int.natCast_mul,Int.natCast_mul]
 rw [show ((x.num.natAbs:Nat):Int) = -x.num by omega,show ((y.num.natAbs:Nat):Int) = -y.num by omega]
 rw [Int.neg_mul,Int.neg_mul]
 unfold AX'
 split
 · rw [if_pos (by omega)]
 · split
   · rw [if_neg (by omega),if_pos (by omega)]
   · rw [if_neg (by omega),if_neg (by omega)]
theorem ET {n:Int} {d:Nat} (hd:0<d):(n<0→n*d<0)∧(n=0→n*d=0)∧(0<n→0<n*d):=by
 have h:(0:Int)<d:=by omega
 refine ⟨fun e=>Int.mul_neg_of_neg_of_pos e h,fun e=>by rw [e,Int.zero_mul],fun e=>Int.mul_pos e h⟩
theorem DQ' {x y:Rat} (h:x.num.sign≠y.num.sign∨x.num.sign=0∧y.num.sign=0):cmpQ x y=AX' x.num.sign y.num.sign:=by
 rw [B6']
 obtain ⟨a1,a2,a3⟩:=ET (n:=x.num) y.den_pos
 obtain ⟨b1,b2,b3⟩:=ET (n:=y.num) x.den_pos
 generalize x.num*y.den=p at *
 generalize y.num*x.den=q at *
 rcases Int.lt_trichotomy x.num 0 with hx | hx | hx <;> rcases Int.lt_trichotomy y.num 0 with hy | hy | hy
 all_goals
   try rw [Int.sign_eq_neg_one_of_neg hx] at h ⊢
   try rw [Int.sign_eq_neg_one_of_neg hy] at h ⊢
   try rw [Int.sign_eq_one_of_pos hx] at h ⊢
   try rw [Int.sign_eq_one_of_pos hy] at h ⊢
   try rw [show x.num.sign=0 by rw [hx];rfl] at h ⊢
   try rw [show y.num.sign=0 by rw [hy];rfl] at h ⊢
   first
     | exact absurd h (by decide)
     | (simp only [hx,hy,forall_const] at a1 a2 a3 b1 b2 b3
        unfold AX'
        first
          | (rw [if_pos (by omega),if_pos (by decide)])
          | (rw [if_neg (by omega),if_neg (by omega),if_neg (by decide),if_neg (by decide)])
          | (rw [if_neg (by omega),if_pos (by omega),if_neg (by decide),if_pos (by decide)]))
theorem F6' {w:World} {vx vy:Value} {x y:Rat} (hx:Af w vx x) (hy:Af w vy y) (hs:Aa' x≤34359738368) (ht:Aa' y≤34359738368) (h:x.num.sign≠y.num.sign) :
   Calls Tryz.prog 74 #[vx,vy] w (AT' w (cmpQ x y)):=by
 obtain ⟨A1,c1,A2,c2,rfl,hx1,hx2⟩:=hx.opened
 obtain ⟨A3,c3,A4,c4,rfl,hy1,hy2⟩:=hy.opened
 obtain ⟨wB,hwB⟩:=eX ((w.alloc (.cells #[.bool (decide (x.num<0)),.slice A1 (len x.num.natAbs) c1,.slice A2 (len (below x.den)) c2] 31)).alloc (.cells #[.bool (decide (y.num<0)),.slice A3 (len y.num.natAbs) c3,.slice A4 (len (below y.den)) c4] 31))
 obtain ⟨b0,gA,gA2⟩:=Aq' hwB
 obtain ⟨k0,k1,k2⟩:=Ab' gA
 obtain ⟨k3,k4,k5⟩:=Ab' gA2
 have hsz:wB.heap.size=w.heap.size+2:=by rw [hwB];simp
 have HSZ:=hid hsz
 have HB0:=hid b0
 have hlt1:w.heap.size<w.heap.size+2:=by omega
 have hlt2:w.heap.size+1<w.heap.size+2:=by omega
 clear gA gA2 b0 hsz
 have HX:=fun (w':World) (hk:Ae' wB (w.heap.size+2) wB w')=>hid (AK (hx.keep (HB0.out.trans (hk.2.1.mono (by omega)))))
 have HY:=fun (w':World) (hk:Ae' wB (w.heap.size+2) wB w')=>hid (AK (hy.keep (HB0.out.trans (hk.2.1.mono (by omega)))))
 have H0:=Ae'.start wB (w.heap.size+2)
 have hM:=DQ' (.inl h)
 obtain ⟨sx,hsx⟩:=eX x.num.sign
 obtain ⟨sy,hsy⟩:=eX y.num.sign
 rw [←hsx,←hsy] at hM
 rw [←hsx] at HX
 rw [←hsy] at HY
 have hne:(sx != sy)=true:=by rw [bne_iff_ne,hsx,hsy];exact h
 have HM:=hid hM
 clear hM h hsx hsy
 clear hs ht
 go_enter Tryz.func74,Tryz.ntmps74
 go_wp2_with fail
 rw [←hwB]
 clear hwB
 go_region_held3 (fun w'=>(∀ b o,b<w.heap.size+2→w'.cell? ⟨b,o,none⟩=wB.cell? ⟨b,o,none⟩)∧Below (w.heap.size+2) wB w'∧Ag' wB w')
   (first | exact H0 | exact hk2 | exact hk1)
   (first | (go_at_call_of 13 (Value.agg #[.bool (decide (x.num<0)),.slice A1 (len x.num.natAbs) c1,.slice A2 (len (below x.den)) c2]);refine ((HX _ ?_).out).mono ?_;assumption;rintro e w1 ⟨rfl,hbl1⟩;have hk1:=Ae'.call (by assumption) (Nat.le_of_eq HSZ.out.symm) hbl1) | (go_at_call_of 13 (Value.agg #[.bool (decide (y.num<0)),.slice A3 (len y.num.natAbs) c3,.slice A4 (len (below y.den)) c4]);refine ((HY _ ?_).out).mono ?_;assumption;rintro e w2 ⟨rfl,hbl2⟩;have hk2:=Ae'.call (by assumption) (Nat.le_of_eq HSZ.out.symm) hbl2))
 rename_i hHl
 clear hHl
 have hc2:=hk2.1
 have HB2:=hid (HB0.out.trans (hk2.2.1.mono (by omega)))
 clear HX HY hbl1 hbl2 hk1 hk2 H0
 have HC9:=hid (BO' (w:=w2) sx sy)
 go_wp2_with fail
 refine (HC9.out).mono ?_
 rintro e w5 ⟨rfl,rfl⟩
 go_wp2_with fail
 go_ret
 exact Bt HM.out.symm HB2.out
theorem Fq' {w:World} {vx vy:Value} {x y:Rat} (hx:Af w vx x) (hy:Af w vy y) (hs:Aa' x≤34359738368) (ht:Aa' y≤34359738368) (h:x.num.sign=0∧y.num.sign=0) :
   Calls Tryz.prog 74 #[vx,vy] w (AT' w (cmpQ x y)):=by
 obtain ⟨A1,c1,A2,c2,rfl,hx1,hx2⟩:=hx.opened
 obtain ⟨A3,c3,A4,c4,rfl,hy1,hy2⟩:=hy.opened
 obtain ⟨wB,hwB⟩:=eX ((w.alloc (.cells #[.bool (decide (x.num<0)),.slice A1 (len x.num.natAbs) c1,.slice A2 (len (below x.den)) c2] 31)).alloc (.cells #[.bool (decide (y.num<0)),.slice A3 (len y.num.natAbs) c3,.slice A4 (len (below y.den)) c4] 31))
 obtain ⟨b0,gA,gA2⟩:=Aq' hwB
 obtain ⟨k0,k1,k2⟩:=Ab' gA
 obtain ⟨k3,k4,k5⟩:=Ab' gA2
 have hsz:wB.heap.size=w.heap.size+2:=by rw [hwB];simp
 have HSZ:=hid hsz
 have HB0:=hid b0
 have hlt1:w.heap.size<w.heap.size+2:=by omega
 have hlt2:w.heap.size+1<w.heap.size+2:=by omega
 clear gA gA2 b0 hsz
 have HX:=fun (w':World) (hk:Ae' wB (w.heap.size+2) wB w')=>hid (AK (hx.keep (HB0.out.trans (hk.2.1.mono (by omega)))))
 have HY:=fun (w':World) (hk:Ae' wB (w.heap.size+2) wB w')=>hid (AK (hy.keep (HB0.out.trans (hk.2.1.mono (by omega)))))
 have H0:=Ae'.start wB (w.heap.size+2)
 have hM:=DQ' (.inr h)
 rw [h.1,h.2] at hM
 rw [h.1] at HX
 rw [h.2] at HY
 have HM:=hid hM
 clear hM h
 clear hs ht
 go_enter Tryz.func74,Tryz.ntmps74
 go_wp2_with fail
 rw [←hwB]
 clear hwB
 go_region_held3 (fun w'=>(∀ b o,b<w.heap.size+2→w'.cell? ⟨b,o,none⟩=wB.cell? ⟨b,o,none⟩)∧Below (w.heap.size+2) wB w'∧Ag' wB w')
   (first | exact H0 | exact hk2 | exact hk1)
   (first | (go_at_call_of 13 (Value.agg #[.bool (decide (x.num<0)),.slice A1 (len x.num.natAbs) c1,.slice A2 (len (below x.den)) c2]);refine ((HX _ ?_).out).mono ?_;assumption;rintro e w1 ⟨rfl,hbl1⟩;have hk1:=Ae'.call (by assumption) (Nat.le_of_eq HSZ.out.symm) hbl1) | (go_at_call_of 13 (Value.agg #[.bool (decide (y.num<0)),.slice A3 (len y.num.natAbs) c3,.slice A4 (len (below y.den)) c4]);refine ((HY _ ?_).out).mono ?_;assumption;rintro e w2 ⟨rfl,hbl2⟩;have hk2:=Ae'.call (by assumption) (Nat.le_of_eq HSZ.out.symm) hbl2))
 rename_i hHl
 clear hHl
 have hc2:=hk2.1
 have HB2:=hid (HB0.out.trans (hk2.2.1.mono (by omega)))
 clear HX HY hbl1 hbl2 hk1 hk2 H0
 have HC9:=hid (BO' (w:=w2) 0 0)
 go_wp2_with fail
 refine (HC9.out).mono ?_
 rintro e w5 ⟨rfl,rfl⟩
 go_wp2_with fail
 go_ret
 exact Bt HM.out.symm HB2.out
theorem F7 {w:World} {vx vy:Value} {x y:Rat} (hx:Af w vx x) (hy:Af w vy y) (hs:Aa' x≤34359738368) (ht:Aa' y≤34359738368) (h:x.num<0∧y.num<0) :
   Calls Tryz.prog 74 #[vx,vy] w (AT' w (cmpQ x y)):=by
 obtain ⟨A1,c1,A2,c2,rfl,hx1,hx2⟩:=hx.opened
 obtain ⟨A3,c3,A4,c4,rfl,hy1,hy2⟩:=hy.opened
 obtain ⟨wB,hwB⟩:=eX ((w.alloc (.cells #[.bool (decide (x.num<0)),.slice A1 (len x.num.natAbs) c1,.slice A2 (len (below x.den)) c2] 31)).alloc (.cells #[.bool (decide (y.num<0)),.slice A3 (len y.num.natAbs) c3,.slice A4 (len (below y.den)) c4] 31))
 obtain ⟨b0,gA,gA2⟩:=Aq' hwB
 obtain ⟨k0,k1,k2⟩:=Ab' gA
 obtain ⟨k3,k4,k5⟩:=Ab' gA2
 have hsz:wB.heap.size=w.heap.size+2:=by rw [hwB];simp
 have HSZ:=hid hsz
 have HB0:=hid b0
 have hlt1:w.heap.size<w.heap.size+2:=by omega
 have hlt2:w.heap.size+1<w.heap.size+2:=by omega
 clear gA gA2 b0 hsz
 have HX:=fun (w':World) (hk:Ae' wB (w.heap.size+2) wB w')=>hid (AK (hx.keep (HB0.out.trans (hk.2.1.mono (by omega)))))
 have HY:=fun (w':World) (hk:Ae' wB (w.heap.size+2) wB w')=>hid (AK (hy.keep (HB0.out.trans (hk.2.1.mono (by omega)))))
 have H0:=Ae'.start wB (w.heap.size+2)
 have HM:=hid (Hs' h.1 h.2)
 have e1:x.num.sign = -1:=Int.sign_eq_neg_one_of_neg h.1
 have e2:y.num.sign = -1:=Int.sign_eq_neg_one_of_neg h.2
 rw [e1] at HX
 rw [e2] at HY
 have H1:=hid ht;have H2:=hid hs
 have N1:Hid (y≠0):=fun e=>by rw [e] at h;simp at h
 have N2:Hid (x≠0):=fun e=>by rw [e] at h;simp at h
 have HNG:=hid h
 clear e1 e2 h
 clear hs ht
 go_enter Tryz.func74,Tryz.ntmps74
 go_wp2_with fail
 rw [←hwB]
 clear hwB
 go_region_held3 (fun w'=>(∀ b o,b<w.heap.size+2→w'.cell? ⟨b,o,none⟩=wB.cell? ⟨b,o,none⟩)∧Below (w.heap.size+2) wB w'∧Ag' wB w')
   (first | exact H0 | exact hk2 | exact hk1)
   (first | (go_at_call_of 13 (Value.agg #[.bool (decide (x.num<0)),.slice A1 (len x.num.natAbs) c1,.slice A2 (len (below x.den)) c2]);refine ((HX _ ?_).out).mono ?_;assumption;rintro e w1 ⟨rfl,hbl1⟩;have hk1:=Ae'.call (by assumption) (Nat.le_of_eq HSZ.out.symm) hbl1) | (go_at_call_of 13 (Value.agg #[.bool (decide (y.num<0)),.slice A3 (len y.num.natAbs) c3,.slice A4 (len (below y.den)) c4]);refine ((HY _ ?_).out).mono ?_;assumption;rintro e w2 ⟨rfl,hbl2⟩;have hk2:=Ae'.call (by assumption) (Nat.le_of_eq HSZ.out.symm) hbl2))
 rename_i hHl
 clear hHl
 have hc2:=hk2.1
 have HB2:=hid (HB0.out.trans (hk2.2.1.mono (by omega)))
 clear HX HY hbl1 hbl2 hk1 hk2 H0
 have HC9:=hid (Dc (hy.keep HB2.out) (hx.keep HB2.out) H1.out H2.out N1.out N2.out)
 have hng:decide (x.num<0)=true:=dT_ HNG.out.1
 rw [hng] at HC9
 have HC9':=HC9
 clear HC9 hx hy hx1 hx2 hy1 hy2
 go_wp2_with fail
 refine (HC9'.out).mono ?_
 rintro e w5 ⟨rfl,hb5⟩
 go_wp2_with fail
 go_ret
 exact Bt HM.out.symm (chain HB2.out hb5)
theorem F7' {w:World} {vx vy:Value} {x y:Rat} (hx:Af w vx x) (hy:Af w vy y) (hs:Aa' x≤34359738368) (ht:Aa' y≤34359738368) (h:0<x.num∧0<y.num) :
   Calls Tryz.prog 74 #[vx,vy] w (AT' w (cmpQ x y)):=by
 obtain ⟨A1,c1,A2,c2,rfl,hx1,hx2⟩:=hx.opened
 obtain ⟨A3,c3,A4,c4,rfl,hy1,hy2⟩:=hy.opened
 obtain ⟨wB,hwB⟩:=eX ((w.alloc (.cells #[.bool (decide (x.num<0)),.slice A1 (len x.num.natAbs) c1,.slice A2 (len (below x.den)) c2] 31)).alloc (.cells #[.bool (decide (y.num<0)),.slice A3 (len y.num.natAbs) c3,.slice A4 (len (below y.den)) c4] 31))
 obtain ⟨b0,gA,gA2⟩:=Aq' hwB
 obtain ⟨k0,k1,k2⟩:=Ab' gA
 obtain ⟨k3,k4,k5⟩:=Ab' gA2
 have hsz:wB.heap.size=w.heap.size+2:=by rw [hwB];simp
 have HSZ:=hid hsz
 have HB0:=hid b0
 have hlt1:w.heap.size<w.heap.size+2:=by omega
 have hlt2:w.heap.size+1<w.heap.size+2:=by omega
 clear gA gA2 b0 hsz
 have HX:=fun (w':World) (hk:Ae' wB (w.heap.size+2) wB w')=>hid (AK (hx.keep (HB0.out.trans (hk.2.1.mono (by omega)))))
 have HY:=fun (w':World) (hk:Ae' wB (w.heap.size+2) wB w')=>hid (AK (hy.keep (HB0.out.trans (hk.2.1.mono (by omega)))))
 have H0:=Ae'.start wB (w.heap.size+2)
 have HM:=hid (Hr' h.1 h.2)
 have e1:x.num.sign=1:=Int.sign_eq_one_of_pos h.1
 have e2:y.num.sign=1:=Int.sign_eq_one_of_pos h.2
 rw [e1] at HX
 rw [e2] at HY
 have H1:=hid hs;have H2:=hid ht
 have N1:Hid (x≠0):=fun e=>by rw [e] at h;simp at h
 have N2:Hid (y≠0):=fun e=>by rw [e] at h;simp at h
 have HNG:=hid h
 clear e1 e2 h
 clear hs ht
 go_enter Tryz.func74,Tryz.ntmps74
 go_wp2_with fail
 rw [←hwB]
 clear hwB
 go_region_held3 (fun w'=>(∀ b o,b<w.heap.size+2→w'.cell? ⟨b,o,none⟩=wB.cell? ⟨b,o,none⟩)∧Below (w.heap.size+2) wB w'∧Ag' wB w')
   (first | exact H0 | exact hk2 | exact hk1)
   (first | (go_at_call_of 13 (Value.agg #[.bool (decide (x.num<0)),.slice A1 (len x.num.natAbs) c1,.slice A2 (len (below x.den)) c2]);refine ((HX _ ?_).out).mono ?_;assumption;rintro e w1 ⟨rfl,hbl1⟩;have hk1:=Ae'.call (by assumption) (Nat.le_of_eq HSZ.out.symm) hbl1) | (go_at_call_of 13 (Value.agg #[.bool (decide (y.num<0)),.slice A3 (len y.num.natAbs) c3,.slice A4 (len (below y.den)) c4]);refine ((HY _ ?_).out).mono ?_;assumption;rintro e w2 ⟨rfl,hbl2⟩;have hk2:=Ae'.call (by assumption) (Nat.le_of_eq HSZ.out.symm) hbl2))
 rename_i hHl
 clear hHl
 have hc2:=hk2.1
 have HB2:=hid (HB0.out.trans (hk2.2.1.mono (by omega)))
 clear HX HY hbl1 hbl2 hk1 hk2 H0
 have HC9:=hid (Dc (hx.keep HB2.out) (hy.keep HB2.out) H1.out H2.out N1.out N2.out)
 have hng:decide (x.num<0)=false:=dF_ (by have:=HNG.out.1;omega)
 rw [hng] at HC9
 have HC9':=HC9
 clear HC9 hx hy hx1 hx2 hy1 hy2
 go_wp2_with fail
 refine (HC9'.out).mono ?_
 rintro e w5 ⟨rfl,hb5⟩
 go_wp2_with fail
 go_ret
 exact Bt HM.out.symm (chain HB2.out hb5)
theorem A1' {w:World} {vx vy:Value} {x y:Rat} (hx:Af w vx x) (hy:Af w vy y) (hs:Aa' x≤34359738368) (ht:Aa' y≤34359738368) :
   Calls Tryz.prog 74 #[vx,vy] w (AT' w (cmpQ x y)):=by
 by_cases h:x.num.sign=y.num.sign
 · rcases Int.lt_trichotomy x.num 0 with h1 | h1 | h1
   · refine F7 hx hy hs ht ⟨h1,?_⟩
     rw [Int.sign_eq_neg_one_of_neg h1] at h
     exact Int.sign_eq_neg_one_iff_neg.1 h.symm
   · have e:x.num.sign=0:=by rw [h1];rfl
     exact Fq' hx hy hs ht ⟨e,h ▸ e⟩
   · refine F7' hx hy hs ht ⟨h1,?_⟩
     rw [Int.sign_eq_one_of_pos h1] at h
     exact Int.sign_eq_one_iff_pos.1 h.symm
 · exact F6' hx hy hs ht h
end Go.Proofs.YtlcimajjnfbidaaGreatDoor
