/-
  Contracts of the functions that the law calls, for every input (NumK NumL NumM BoxA BoxB NumJ BoxC).
-/
import Derived.Test.YtlcimajjnfbidaaGreatDoorV00
import Derived.Test.YtlcimajjnfbidaaGreatDoorV12
import Derived.Test.YtlcimajjnfbidaaGreatDoorV08
import Derived.Test.YtlcimajjnfbidaaGreatDoorV18
import Derived.Test.YtlcimajjnfbidaaGreatDoorV11
import Derived.Test.YtlcimajjnfbidaaGreatDoorV10
import Derived.Test.YtlcimajjnfbidaaGreatDoorV09
set_option linter.all false
set_option maxRecDepth 100000
set_option maxHeartbeats 40000000
namespace Go.Proofs.YtlcimajjnfbidaaGreatDoor
open Lib (hid)
open Go.RowKit
open Vx
theorem fl_nonneg {n:Int} {d:Nat} (h:¬ n<0):((n.natAbs / d:Nat):Int)=n / (d:Int):=by
 rw [Int.natCast_ediv,Int.natAbs_of_nonneg (by omega)]
theorem fl_neg {n:Int} {d:Nat} (h:n<0) (hd:0<d) (hr:n.natAbs%d=0) : -((n.natAbs / d:Nat):Int)=n / (d:Int):=by
 obtain ⟨k,hk⟩:=Nat.dvd_of_mod_eq_zero hr
 have e:n = -((d:Int)*(k:Int)):=by
   have:((n.natAbs:Nat):Int)=((d*k:Nat):Int):=by rw [hk]
   rw [Int.natCast_mul] at this
   omega
 rw [hk,Nat.mul_div_cancel_left _ hd,e,←Int.mul_neg,Int.mul_ediv_cancel_left _ (by omega)]
theorem fl_down {n:Int} {d:Nat} (h:n<0) (hd:0<d) (hr:0<n.natAbs%d) : -((n.natAbs / d+1:Nat):Int)=n / (d:Int):=by
 have h1:=Nat.div_add_mod n.natAbs d
 have h2:=Nat.mod_lt n.natAbs hd
 obtain ⟨q,hq⟩:=eX (n.natAbs / d)
 obtain ⟨r,hr2⟩:=eX (n.natAbs%d)
 rw [←hq,←hr2] at h1
 rw [←hr2] at h2 hr
 rw [←hq]
 have e:n=((d - r:Nat):Int)+(d:Int) * -((q+1:Nat):Int):=by
   have h3:((d*q+r:Nat):Int)=((n.natAbs:Nat):Int):=by rw [h1]
   have h4:(d:Int) * -((q+1:Nat):Int) = -((d*q:Nat):Int) - d:=by
     rw [Int.natCast_add,Int.natCast_mul,Int.mul_neg,Int.mul_add];simp;omega
   rw [h4]
   omega
 rw [e,Int.add_mul_ediv_left _ _ (by omega),Int.ediv_eq_zero_of_lt (by omega) (by omega),Int.zero_add]
theorem floor_pos {w:World} {vx:Value} {x q:Rat} (hx:IsNum w vx x) (hq:q=mkRat (x.num / (x.den:Int)) 1) (hs:siz x≤34359738368) (h:¬ x.num<0) :
   Calls Tryz.prog 109 #[vx] w (NumRet w q):=by
 obtain ⟨A1,c1,A2,c2,rfl,hx1,hx2⟩:=hx.opened
 obtain ⟨wB,hwB⟩:=eX ((w.alloc (.cells #[.bool (decide (x.num<0)),.slice A1 (len x.num.natAbs) c1,.slice A2 (len (below x.den)) c2] 31)).alloc (.cells #[.bool false,.slice none 0 0,.slice none 0 0] 31))
 obtain ⟨b0,gA,gB⟩:=news2' hwB
 obtain ⟨k0,k1,k2⟩:=cells3 gA
 have HK0:=hid (Kept.start (T:=31) rfl (plain3 _ _ _ _ _ _ _) gB)
 have HB0:=hid b0
 have hlt1:w.heap.size<w.heap.size+1:=by omega
 clear gA gB b0
 have hd:decide (x.num<0)=false:=decide_eq_false h
 rw [hd] at k0 hwB hx ⊢
 clear hd
 have hl1:=siz_num x
 have hl2:=siz_den x
 have HS:=hid (And.intro (Nat.le_trans hl1 hs) (Nat.le_trans hl2 hs))
 have HV:=hid (show mkRat (sgn false (x.num.natAbs / x.den)) 1=q by rw [hq];congr 1;exact fl_nonneg h)
 have H0:=HK0.out.begin
 have hx1':=hx1.keep HB0.out
 have HY:=fun (w':World) (hk:Held3 wB (w.heap.size+1) wB w')=>hid (bottom_any (hx.keep (below_to HB0.out (by omega) hk.kept.1)))
 have hdp:0<x.den:=x.den_pos
 clear hq hs hl1 hl2
 go_enter Tryz.func109,Tryz.ntmps109
 go_upto_region 1 with fail
 rw [←hwB]
 clear hwB
 go_wp2_with fail
 clear h
 go_region_held3 (fun w'=>(∀ b o,b<w.heap.size+1→w'.cell? ⟨b,o,none⟩=wB.cell? ⟨b,o,none⟩)∧w'.cell? ⟨w.heap.size+1,0,none⟩=some (cur w' ⟨w.heap.size+1,0,none⟩)∧w'.cell? ⟨w.heap.size+1,1,none⟩=some (cur w' ⟨w.heap.size+1,1,none⟩)∧w'.cell? ⟨w.heap.size+1,2,none⟩=some (cur w' ⟨w.heap.size+1,2,none⟩)∧w'.frozen? ⟨w.heap.size+1,0,none⟩=false∧w'.frozen? ⟨w.heap.size+1,1,none⟩=false∧w'.frozen? ⟨w.heap.size+1,2,none⟩=false∧Kept 3 31 wB (w.heap.size+1) w'∧Stay wB w')
   (first | exact H0 | exact hk3 | exact hk2)
   (first | (go_at_call 89;refine ((HY _ ?_).out).mono ?_;assumption;rintro e w2 ⟨v2,rfl,hv2,hbl2⟩;have hk2:=Held3.call (by assumption) hbl2) | (go_at_call 130;refine (div_any (hk2.stay _ _ hx1') hv2 (Nat.le_trans HS.out.1 (by decide)) hdp).mono ?_;rintro e w3 ⟨v3,u3,rfl,hv3,hu3,hbl3⟩;obtain ⟨B3,e3,rfl,-⟩:=id hu3;have hk3:=Held3.call (by assumption) hbl3))
 rename_i hHl
 clear hHl
 have HK3:=hid hk3.kept
 have q0:=(hk3.1 _ _ hlt1).trans k0
 clear hk2 hk3 H0 k0 k1 k2 HY hx hx1' hx1 hx2 hv2 hbl2 hbl3 hu3
 have HF:=hid (fraction_int (neg:=false) hv3 HV.out)
 clear hv3
 go_wp2_with fail
 refine (HF.out).mono ?_
 rintro e w5 ⟨v5,rfl,hv5,b5⟩
 obtain ⟨C1,j1,C2,j2,rfl,-,-⟩:=hv5.opened
 have hk:=(HK3.out.call b5).held (Stay.refl _)
 clear b5 HF q0
 obtain ⟨-,c0,c1',c2',f0,f1,f2,-⟩:=id hk
 have HD:=hk.done (q:=q) (b:=decide (q.num<0)) (A1:=C1) (n1:=len q.num.natAbs) (c1:=j1) (A2:=C2) (n2:=len (below q.den)) (c2:=j2) (hv5)
 obtain ⟨d1,d2,d3⟩:=HD
 obtain ⟨r0,r1,r2⟩:=cells3 d3
 have HD:=hid (And.intro d1 d2)
 clear d1 d2 d3
 go_wp2_with fail
 refine bodyPost_ret (v:=.agg #[.bool (decide (q.num<0)),.slice (C1) (len q.num.natAbs) (j1),.slice (C2) (len (below q.den)) (j2)]) ?_ rfl ⟨_,rfl,HD.out.1,below_to HB0.out (by omega) HD.out.2⟩
 simp [results,Tryz.results109,go_sem,r0,r1,r2]
theorem floor_neg {w:World} {vx:Value} {x q:Rat} (hx:IsNum w vx x) (hq:q=mkRat (x.num / (x.den:Int)) 1) (hs:siz x≤34359738368) (h:x.num<0) (hr:x.num.natAbs%x.den=0) :
   Calls Tryz.prog 109 #[vx] w (NumRet w q):=by
 obtain ⟨A1,c1,A2,c2,rfl,hx1,hx2⟩:=hx.opened
 obtain ⟨wB,hwB⟩:=eX ((w.alloc (.cells #[.bool (decide (x.num<0)),.slice A1 (len x.num.natAbs) c1,.slice A2 (len (below x.den)) c2] 31)).alloc (.cells #[.bool false,.slice none 0 0,.slice none 0 0] 31))
 obtain ⟨b0,gA,gB⟩:=news2' hwB
 obtain ⟨k0,k1,k2⟩:=cells3 gA
 have HK0:=hid (Kept.start (T:=31) rfl (plain3 _ _ _ _ _ _ _) gB)
 have HB0:=hid b0
 have hlt1:w.heap.size<w.heap.size+1:=by omega
 clear gA gB b0
 have hd:decide (x.num<0)=true:=decide_eq_true h
 rw [hd] at k0 hwB hx ⊢
 clear hd
 have hl1:=siz_num x
 have hl2:=siz_den x
 have HS:=hid (And.intro (Nat.le_trans hl1 hs) (Nat.le_trans hl2 hs))
 have HV:=hid (show mkRat (sgn true (x.num.natAbs / x.den)) 1=q by rw [hq];congr 1;exact fl_neg h x.den_pos hr)
 have H0:=HK0.out.begin
 have hx1':=hx1.keep HB0.out
 have HY:=fun (w':World) (hk:Held3 wB (w.heap.size+1) wB w')=>hid (bottom_any (hx.keep (below_to HB0.out (by omega) hk.kept.1)))
 have hdp:0<x.den:=x.den_pos
 clear hq hs hl1 hl2
 go_enter Tryz.func109,Tryz.ntmps109
 go_upto_region 1 with fail
 rw [←hwB]
 clear hwB
 go_wp2_with fail
 have HR:=hid hr
 clear h hr
 go_region_held3 (fun w'=>(∀ b o,b<w.heap.size+1→w'.cell? ⟨b,o,none⟩=wB.cell? ⟨b,o,none⟩)∧w'.cell? ⟨w.heap.size+1,0,none⟩=some (cur w' ⟨w.heap.size+1,0,none⟩)∧w'.cell? ⟨w.heap.size+1,1,none⟩=some (cur w' ⟨w.heap.size+1,1,none⟩)∧w'.cell? ⟨w.heap.size+1,2,none⟩=some (cur w' ⟨w.heap.size+1,2,none⟩)∧w'.frozen? ⟨w.heap.size+1,0,none⟩=false∧w'.frozen? ⟨w.heap.size+1,1,none⟩=false∧w'.frozen? ⟨w.heap.size+1,2,none⟩=false∧Kept 3 31 wB (w.heap.size+1) w'∧Stay wB w')
   (first | exact H0 | exact hk3 | exact hk2)
   (first | (go_at_call 89;refine ((HY _ ?_).out).mono ?_;assumption;rintro e w2 ⟨v2,rfl,hv2,hbl2⟩;have hk2:=Held3.call (by assumption) hbl2) | (go_at_call 130;refine (div_any (hk2.stay _ _ hx1') hv2 (Nat.le_trans HS.out.1 (by decide)) hdp).mono ?_;rintro e w3 ⟨v3,u3,rfl,hv3,hu3,hbl3⟩;obtain ⟨B3,e3,rfl,-⟩:=id hu3;have hk3:=Held3.call (by assumption) hbl3))
 rename_i hHl
 clear hHl
 have HK3:=hid hk3.kept
 have q0:=(hk3.1 _ _ hlt1).trans k0
 clear hk2 hk3 H0 k0 k1 k2 HY hx hx1' hx1 hx2 hv2 hbl2 hbl3 hu3
 have HF:=hid (fraction_int (neg:=true) hv3 HV.out)
 clear hv3
 have hl:len (x.num.natAbs%x.den)=0:=by rw [HR.out,len_zero]
 rw [hl]
 clear hl HR
 go_wp2_with fail
 refine (HF.out).mono ?_
 rintro e w5 ⟨v5,rfl,hv5,b5⟩
 obtain ⟨C1,j1,C2,j2,rfl,-,-⟩:=hv5.opened
 have hk:=(HK3.out.call b5).held (Stay.refl _)
 clear b5 HF q0
 obtain ⟨-,c0,c1',c2',f0,f1,f2,-⟩:=id hk
 have HD:=hk.done (q:=q) (b:=decide (q.num<0)) (A1:=C1) (n1:=len q.num.natAbs) (c1:=j1) (A2:=C2) (n2:=len (below q.den)) (c2:=j2) (hv5)
 obtain ⟨d1,d2,d3⟩:=HD
 obtain ⟨r0,r1,r2⟩:=cells3 d3
 have HD:=hid (And.intro d1 d2)
 clear d1 d2 d3
 go_wp2_with fail
 refine bodyPost_ret (v:=.agg #[.bool (decide (q.num<0)),.slice (C1) (len q.num.natAbs) (j1),.slice (C2) (len (below q.den)) (j2)]) ?_ rfl ⟨_,rfl,HD.out.1,below_to HB0.out (by omega) HD.out.2⟩
 simp [results,Tryz.results109,go_sem,r0,r1,r2]
theorem floor_down {w:World} {vx:Value} {x q:Rat} (hx:IsNum w vx x) (hq:q=mkRat (x.num / (x.den:Int)) 1) (hs:siz x≤34359738368) (h:x.num<0) (hr:0<x.num.natAbs%x.den) :
   Calls Tryz.prog 109 #[vx] w (NumRet w q):=by
 obtain ⟨A1,c1,A2,c2,rfl,hx1,hx2⟩:=hx.opened
 obtain ⟨wB,hwB⟩:=eX ((w.alloc (.cells #[.bool (decide (x.num<0)),.slice A1 (len x.num.natAbs) c1,.slice A2 (len (below x.den)) c2] 31)).alloc (.cells #[.bool false,.slice none 0 0,.slice none 0 0] 31))
 obtain ⟨b0,gA,gB⟩:=news2' hwB
 obtain ⟨k0,k1,k2⟩:=cells3 gA
 have HK0:=hid (Kept.start (T:=31) rfl (plain3 _ _ _ _ _ _ _) gB)
 have HB0:=hid b0
 have hlt1:w.heap.size<w.heap.size+1:=by omega
 clear gA gB b0
 have hd:decide (x.num<0)=true:=decide_eq_true h
 rw [hd] at k0 hwB hx ⊢
 clear hd
 have hl1:=siz_num x
 have hl2:=siz_den x
 have HS:=hid (And.intro (Nat.le_trans hl1 hs) (Nat.le_trans hl2 hs))
 have HV:=hid (show mkRat (sgn true (x.num.natAbs / x.den+1)) 1=q by rw [hq];congr 1;exact fl_down h x.den_pos hr)
 have H0:=HK0.out.begin
 have hx1':=hx1.keep HB0.out
 have HY:=fun (w':World) (hk:Held3 wB (w.heap.size+1) wB w')=>hid (bottom_any (hx.keep (below_to HB0.out (by omega) hk.kept.1)))
 have hdp:0<x.den:=x.den_pos
 clear hq hs hl1 hl2
 go_enter Tryz.func109,Tryz.ntmps109
 go_upto_region 1 with fail
 rw [←hwB]
 clear hwB
 go_wp2_with fail
 have HR:=hid hr
 clear h hr
 go_region_held3 (fun w'=>(∀ b o,b<w.heap.size+1→w'.cell? ⟨b,o,none⟩=wB.cell? ⟨b,o,none⟩)∧w'.cell? ⟨w.heap.size+1,0,none⟩=some (cur w' ⟨w.heap.size+1,0,none⟩)∧w'.cell? ⟨w.heap.size+1,1,none⟩=some (cur w' ⟨w.heap.size+1,1,none⟩)∧w'.cell? ⟨w.heap.size+1,2,none⟩=some (cur w' ⟨w.heap.size+1,2,none⟩)∧w'.frozen? ⟨w.heap.size+1,0,none⟩=false∧w'.frozen? ⟨w.heap.size+1,1,none⟩=false∧w'.frozen? ⟨w.heap.size+1,2,none⟩=false∧Kept 3 31 wB (w.heap.size+1) w'∧Stay wB w')
   (first | exact H0 | exact hk3 | exact hk2)
   (first | (go_at_call 89;refine ((HY _ ?_).out).mono ?_;assumption;rintro e w2 ⟨v2,rfl,hv2,hbl2⟩;have hk2:=Held3.call (by assumption) hbl2) | (go_at_call 130;refine (div_any (hk2.stay _ _ hx1') hv2 (Nat.le_trans HS.out.1 (by decide)) hdp).mono ?_;rintro e w3 ⟨v3,u3,rfl,hv3,hu3,hbl3⟩;obtain ⟨B3,e3,rfl,-⟩:=id hu3;have hk3:=Held3.call (by assumption) hbl3))
 rename_i hHl
 clear hHl
 have HK3:=hid hk3.kept
 have q0:=(hk3.1 _ _ hlt1).trans k0
 clear hk2 hk3 H0 k0 k1 k2 HY hx hx1' hx1 hx2 hv2 hbl2 hbl3 hu3
 have hl:(0:Int)<((len (x.num.natAbs%x.den):Nat):Int):=by have:=len_pos.2 HR.out;omega
 have hlw:w.heap.size<w3.heap.size:=by have:=HK3.out.block_lt;omega
 have bA:Below w3.heap.size w3 (w3.alloc (.cells #[.int .u64 1] 97)):=(Below.refl _ _).alloc (Nat.le_refl _) _
 have hone:Nt (w3.alloc (.cells #[.int .u64 1] 97)) (.slice (some ⟨w3.heap.size,0,none⟩) 1 1) 1:=word_nat w3 (x:=1) (by decide) (by rw [W_eq];decide)
 have hlq:len (x.num.natAbs / x.den)≤34359738368:=Nat.le_trans (len_mono (Nat.div_le_self _ _)) HS.out.1
 have HA:=hid (add_any (hv3.keep bA) hone (Nat.le_trans hlq (by decide)) (by rw [len_one];decide))
 have HB:=hid bA
 clear HR bA hone hlq hv3
 go_wp2_with fail
 refine (HA.out).mono ?_
 rintro e w4 ⟨v4,rfl,hv4,b4⟩
 have q0:w4.cell? ⟨w.heap.size,0,none⟩=some (.bool true):=((chain HB.out b4).cell (p:=⟨w.heap.size,0,none⟩) hlw).trans q0
 have HK3:=hid (HK3.out.call (chain HB.out b4))
 have HF:=hid (fraction_int (neg:=true) hv4 HV.out)
 clear HA HB b4 hv4
 go_wp2_with fail
 refine (HF.out).mono ?_
 rintro e w5 ⟨v5,rfl,hv5,b5⟩
 obtain ⟨C1,j1,C2,j2,rfl,-,-⟩:=hv5.opened
 have hk:=(HK3.out.call b5).held (Stay.refl _)
 clear b5 HF q0
 obtain ⟨-,c0,c1',c2',f0,f1,f2,-⟩:=id hk
 have HD:=hk.done (q:=q) (b:=decide (q.num<0)) (A1:=C1) (n1:=len q.num.natAbs) (c1:=j1) (A2:=C2) (n2:=len (below q.den)) (c2:=j2) (hv5)
 obtain ⟨d1,d2,d3⟩:=HD
 obtain ⟨r0,r1,r2⟩:=cells3 d3
 have HD:=hid (And.intro d1 d2)
 clear d1 d2 d3
 go_wp2_with fail
 refine bodyPost_ret (v:=.agg #[.bool (decide (q.num<0)),.slice (C1) (len q.num.natAbs) (j1),.slice (C2) (len (below q.den)) (j2)]) ?_ rfl ⟨_,rfl,HD.out.1,below_to HB0.out (by omega) HD.out.2⟩
 simp [results,Tryz.results109,go_sem,r0,r1,r2]
theorem numFloor_any {w:World} {vx:Value} {x:Rat} (hx:IsNum w vx x) (hs:siz x≤34359738368) :
   Calls Tryz.prog 109 #[vx] w (NumRet w (mkRat (x.num / (x.den:Int)) 1)):=by
 rcases Decidable.em (x.num<0) with h | h
 · rcases Nat.eq_zero_or_pos (x.num.natAbs%x.den) with hr | hr
   · exact floor_neg hx rfl hs h hr
   · exact floor_down hx rfl hs h hr
 · exact floor_pos hx rfl hs h
end Go.Proofs.YtlcimajjnfbidaaGreatDoor
namespace Go.Proofs.YtlcimajjnfbidaaGreatDoor
open Lib (hid)
open Go.RowKit
open Vx
def flr (x:Rat):Rat:=mkRat (x.num / (x.den:Int)) 1
theorem siz_flr (x:Rat):siz (flr x)≤siz x:=by
 refine Nat.le_trans (siz_mk _ _) ?_
 have h1:=len_mono (Int.natAbs_ediv_le_natAbs x.num (x.den:Int))
 have h2:=siz_num x
 have h3:=siz_pos x
 have h4:=len_one
 omega
theorem numFlr_any {w:World} {vx:Value} {x:Rat} (hx:IsNum w vx x) (hs:siz x≤34359738368) :
   Calls Tryz.prog 109 #[vx] w (NumRet w (flr x)):=numFloor_any hx hs
theorem ceil_to {w:World} {vx:Value} {x q:Rat} (hx:IsNum w vx x) (hq : -flr (-x)=q) (hs:siz x≤34359738368) :
   Calls Tryz.prog 110 #[vx] w (NumRet w q):=by
 obtain ⟨A1,c1,A2,c2,rfl,hx1,hx2⟩:=hx.opened
 obtain ⟨wB,hwB⟩:=eX ((w.alloc (.cells #[.bool (decide (x.num<0)),.slice A1 (len x.num.natAbs) c1,.slice A2 (len (below x.den)) c2] 31)).alloc (.cells #[.bool false,.slice none 0 0,.slice none 0 0] 31))
 obtain ⟨b0,gA,gB⟩:=news2' hwB
 obtain ⟨k0,k1,k2⟩:=cells3 gA
 have HK0:=hid (Kept.start (T:=31) rfl (plain3 _ _ _ _ _ _ _) gB)
 have HB0:=hid b0
 have hlt1:w.heap.size<w.heap.size+1:=by omega
 clear gA gB b0
 have HX:=hid (numNeg_any (hx.keep HB0.out) (Nat.le_trans hs (by decide)))
 have HQ:=hid hq
 obtain ⟨y,hy⟩:=eX (-x)
 obtain ⟨z,hz⟩:=eX (flr y)
 have hsy:siz y≤34359738368:=by rw [hy,siz_neg];exact hs
 have hsz:siz z≤34359738368:=by rw [hz];exact Nat.le_trans (siz_flr y) hsy
 have HZ:=hid hz
 have HQ:=hid (show -z=q by rw [hz,hy];exact hq)
 have HS:=hid (And.intro hsy hsz)
 rw [←hy] at HX
 clear hy hz hq hs hsy hsz
 go_enter Tryz.func110,Tryz.ntmps110
 go_upto_region 1 with fail
 rw [←hwB]
 clear hwB
 go_wp2_with fail
 refine (HX.out).mono ?_
 rintro e w1 ⟨v1,rfl,hv1,b1⟩
 have HF:=hid (numFlr_any hv1 HS.out.1)
 rw [←HZ.out] at HF
 have HK1:=hid (HK0.out.call b1)
 clear b1 HX
 go_wp2_with fail
 refine (HF.out).mono ?_
 rintro e w2 ⟨v2,rfl,hv2,b2⟩
 have HN:=hid (numNeg_any hv2 (Nat.le_trans HS.out.2 (by decide)))
 rw [HQ.out] at HN
 have HK2:=hid (HK1.out.call b2)
 clear b2 HF
 go_wp2_with fail
 refine (HN.out).mono ?_
 rintro e w5 ⟨v5,rfl,hv5,b5⟩
 obtain ⟨C1,j1,C2,j2,rfl,-,-⟩:=hv5.opened
 have hk:=(HK2.out.call b5).held (Stay.refl _)
 clear b5 HN
 obtain ⟨-,c0,c1',c2',f0,f1,f2,-⟩:=id hk
 have HD:=hk.done (q:=q) (b:=decide (q.num<0)) (A1:=C1) (n1:=len q.num.natAbs) (c1:=j1) (A2:=C2) (n2:=len (below q.den)) (c2:=j2) (hv5)
 obtain ⟨d1,d2,d3⟩:=HD
 obtain ⟨r0,r1,r2⟩:=cells3 d3
 have HD:=hid (And.intro d1 d2)
 clear d1 d2 d3
 go_wp2_with fail
 refine bodyPost_ret (v:=.agg #[.bool (decide (q.num<0)),.slice (C1) (len q.num.natAbs) (j1),.slice (C2) (len (below q.den)) (j2)]) ?_ rfl ⟨_,rfl,HD.out.1,below_to HB0.out (by omega) HD.out.2⟩
 simp [results,Tryz.results110,go_sem,r0,r1,r2]
theorem numCeil_any {w:World} {vx:Value} {x:Rat} (hx:IsNum w vx x) (hs:siz x≤34359738368) :
   Calls Tryz.prog 110 #[vx] w (NumRet w (-flr (-x))):=ceil_to hx rfl hs
end Go.Proofs.YtlcimajjnfbidaaGreatDoor
namespace Go.Proofs.YtlcimajjnfbidaaGreatDoor
open Lib (hid)
open Go.RowKit
open Vx
def Three (w:World) (B:Nat) (v0 v1 v2:Value):Prop:=w.cell? ⟨B,0,none⟩=some v0∧w.cell? ⟨B,1,none⟩=some v1∧w.cell? ⟨B,2,none⟩=some v2
theorem Three.call {w w':World} {B:Nat} {v0 v1 v2:Value} (h:Three w B v0 v1 v2) (hb:Below w.heap.size w w'):Three w' B v0 v1 v2:=by
 have hl:=World.block_lt_of_cell? w _ h.1
 exact ⟨(hb.cell (p:=⟨B,0,none⟩) hl).trans h.1,(hb.cell (p:=⟨B,1,none⟩) hl).trans h.2.1,(hb.cell (p:=⟨B,2,none⟩) hl).trans h.2.2⟩
theorem Three.drew {w:World} {B:Nat} {v0 v1 v2:Value} (h:Three w B v0 v1 v2):Three w.drew B v0 v1 v2:=h.call ⟨rfl,rfl,rfl,Nat.le_refl _,fun _ _=>rfl⟩
theorem Three.put {w:World} {B G:Nat} {v0 v1 v2:Value} (h:Three w B v0 v1 v2) (hne:B≠G) (i:Nat) (v:Value):Three (w.setCell ⟨G,i,none⟩ v) B v0 v1 v2:=by
 refine ⟨?_,?_,?_⟩ <;> rw [World.cell?_setCell_other _ _ _ _ (by intro e;injection e with e1;omega)]
 · exact h.1
 · exact h.2.1
 · exact h.2.2
end Go.Proofs.YtlcimajjnfbidaaGreatDoor
namespace Go.Proofs.YtlcimajjnfbidaaGreatDoor
open Lib (hid)
open Go.RowKit
open Vx
def IsBox (w:World) (v:Value) (a b:Rat):Prop :=
  ∃ v1 v2 v3 v4,v=.agg #[.bool (decide (a.num<0)),v1,v2,.bool (decide (b.num<0)),v3,v4]∧Nt w v1 a.num.natAbs∧Nt w v2 (below a.den)∧Nt w v3 b.num.natAbs∧Nt w v4 (below b.den)
theorem IsBox.keep {w w':World} {v:Value} {a b:Rat} (h:IsBox w v a b) (hb:Below w.heap.size w w'):IsBox w' v a b:=by
 obtain ⟨v1,v2,v3,v4,h0,h1,h2,h3,h4⟩:=h
 exact ⟨v1,v2,v3,v4,h0,h1.keep hb,h2.keep hb,h3.keep hb,h4.keep hb⟩
theorem IsBox.opened {w:World} {v:Value} {a b:Rat} (h:IsBox w v a b):∃ A1 c1 A2 c2 A3 c3 A4 c4,
   v=.agg #[.bool (decide (a.num<0)),.slice A1 (len a.num.natAbs) c1,.slice A2 (len (below a.den)) c2,.bool (decide (b.num<0)),.slice A3 (len b.num.natAbs) c3,.slice A4 (len (below b.den)) c4] ∧
   IsNum w (.agg #[.bool (decide (a.num<0)),.slice A1 (len a.num.natAbs) c1,.slice A2 (len (below a.den)) c2]) a∧IsNum w (.agg #[.bool (decide (b.num<0)),.slice A3 (len b.num.natAbs) c3,.slice A4 (len (below b.den)) c4]) b:=by
 obtain ⟨v1,v2,v3,v4,rfl,h1,h2,h3,h4⟩:=h
 obtain ⟨A1,c1,rfl,-⟩:=id h1
 obtain ⟨A2,c2,rfl,-⟩:=id h2
 obtain ⟨A3,c3,rfl,-⟩:=id h3
 obtain ⟨A4,c4,rfl,-⟩:=id h4
 exact ⟨A1,c1,A2,c2,A3,c3,A4,c4,rfl,⟨_,_,rfl,h1,h2⟩,⟨_,_,rfl,h3,h4⟩⟩
theorem IsNum.pair {w:World} {A1 c1 A2 c2 A3 c3 A4 c4} {a b:Rat} {n1 n2 n3 n4:Nat} {s1 s2:Bool} (h1:IsNum w (.agg #[.bool s1,.slice A1 n1 c1,.slice A2 n2 c2]) a) (h2:IsNum w (.agg #[.bool s2,.slice A3 n3 c3,.slice A4 n4 c4]) b) :
   IsBox w (.agg #[.bool s1,.slice A1 n1 c1,.slice A2 n2 c2,.bool s2,.slice A3 n3 c3,.slice A4 n4 c4]) a b:=by
 obtain ⟨u1,u2,e1,h3,h4⟩:=h1
 obtain ⟨u3,u4,e2,h5,h6⟩:=h2
 simp only [Value.agg.injEq,Array.mk.injEq,List.cons.injEq,Value.bool.injEq,and_true] at e1 e2
 obtain ⟨rfl,rfl,rfl⟩:=e1
 obtain ⟨rfl,rfl,rfl⟩:=e2
 exact ⟨_,_,_,_,rfl,h3,h4,h5,h6⟩
def BoxRet (w:World) (a b:Rat) (e:Ending) (w':World):Prop:=∃ v,e=.returned v∧IsBox w' v a b∧Below w.heap.size w w'
theorem boxLo_any {w:World} {v:Value} {a b:Rat} (hv:IsBox w v a b) (hs:siz a≤1099511627776) :
   Calls Tryz.prog 51 #[v] w (NumRet w a):=by
 obtain ⟨A1,c1,A2,c2,A3,c3,A4,c4,rfl,hx,hy⟩:=hv.opened
 obtain ⟨wB,hwB⟩:=eX ((w.alloc (.cells #[.bool (decide (a.num<0)),.slice A1 (len a.num.natAbs) c1,.slice A2 (len (below a.den)) c2,.bool (decide (b.num<0)),.slice A3 (len b.num.natAbs) c3,.slice A4 (len (below b.den)) c4] 48)).alloc (.cells #[.bool false,.slice none 0 0,.slice none 0 0] 31))
 obtain ⟨b0,gA,gB⟩:=news2' hwB
 obtain ⟨k0,k1,k2,k3,k4,k5⟩:=cells6 gA
 have HK0:=hid (Kept.start (T:=31) rfl (plain3 _ _ _ _ _ _ _) gB)
 have HB0:=hid b0
 have hlt1:w.heap.size<w.heap.size+1:=by omega
 clear gA gB b0
 have HX:=hid (numCopied_any (hx.keep HB0.out) hs)
 clear hs hx hy hv
 go_enter Tryz.func51,Tryz.ntmps51
 go_upto_region 1 with fail
 rw [←hwB]
 clear hwB
 go_wp2_with fail
 refine (HX.out).mono ?_
 rintro e w5 ⟨v5,rfl,hv5,b5⟩
 obtain ⟨C1,j1,C2,j2,rfl,-,-⟩:=hv5.opened
 have hk:=(HK0.out.call b5).held (Stay.refl _)
 clear b5 HX
 obtain ⟨-,c0,c1',c2',f0,f1,f2,-⟩:=id hk
 have HD:=hk.done (q:=a) (b:=decide (a.num<0)) (A1:=C1) (n1:=len a.num.natAbs) (c1:=j1) (A2:=C2) (n2:=len (below a.den)) (c2:=j2) (hv5)
 obtain ⟨d1,d2,d3⟩:=HD
 obtain ⟨r0,r1,r2⟩:=cells3 d3
 have HD:=hid (And.intro d1 d2)
 clear d1 d2 d3
 go_wp2_with fail
 refine bodyPost_ret (v:=.agg #[.bool (decide (a.num<0)),.slice (C1) (len a.num.natAbs) (j1),.slice (C2) (len (below a.den)) (j2)]) ?_ rfl ⟨_,rfl,HD.out.1,below_to HB0.out (by omega) HD.out.2⟩
 simp [results,Tryz.results51,go_sem,r0,r1,r2]
theorem boxHi_any {w:World} {v:Value} {a b:Rat} (hv:IsBox w v a b) (hs:siz b≤1099511627776) :
   Calls Tryz.prog 52 #[v] w (NumRet w b):=by
 obtain ⟨A1,c1,A2,c2,A3,c3,A4,c4,rfl,hx,hy⟩:=hv.opened
 obtain ⟨wB,hwB⟩:=eX ((w.alloc (.cells #[.bool (decide (a.num<0)),.slice A1 (len a.num.natAbs) c1,.slice A2 (len (below a.den)) c2,.bool (decide (b.num<0)),.slice A3 (len b.num.natAbs) c3,.slice A4 (len (below b.den)) c4] 48)).alloc (.cells #[.bool false,.slice none 0 0,.slice none 0 0] 31))
 obtain ⟨b0,gA,gB⟩:=news2' hwB
 obtain ⟨k0,k1,k2,k3,k4,k5⟩:=cells6 gA
 have HK0:=hid (Kept.start (T:=31) rfl (plain3 _ _ _ _ _ _ _) gB)
 have HB0:=hid b0
 have hlt1:w.heap.size<w.heap.size+1:=by omega
 clear gA gB b0
 have HX:=hid (numCopied_any (hy.keep HB0.out) hs)
 clear hs hx hy hv
 go_enter Tryz.func52,Tryz.ntmps52
 go_upto_region 1 with fail
 rw [←hwB]
 clear hwB
 go_wp2_with fail
 refine (HX.out).mono ?_
 rintro e w5 ⟨v5,rfl,hv5,b5⟩
 obtain ⟨C1,j1,C2,j2,rfl,-,-⟩:=hv5.opened
 have hk:=(HK0.out.call b5).held (Stay.refl _)
 clear b5 HX
 obtain ⟨-,c0,c1',c2',f0,f1,f2,-⟩:=id hk
 have HD:=hk.done (q:=b) (b:=decide (b.num<0)) (A1:=C1) (n1:=len b.num.natAbs) (c1:=j1) (A2:=C2) (n2:=len (below b.den)) (c2:=j2) (hv5)
 obtain ⟨d1,d2,d3⟩:=HD
 obtain ⟨r0,r1,r2⟩:=cells3 d3
 have HD:=hid (And.intro d1 d2)
 clear d1 d2 d3
 go_wp2_with fail
 refine bodyPost_ret (v:=.agg #[.bool (decide (b.num<0)),.slice (C1) (len b.num.natAbs) (j1),.slice (C2) (len (below b.den)) (j2)]) ?_ rfl ⟨_,rfl,HD.out.1,below_to HB0.out (by omega) HD.out.2⟩
 simp [results,Tryz.results52,go_sem,r0,r1,r2]
end Go.Proofs.YtlcimajjnfbidaaGreatDoor
namespace Go.Proofs.YtlcimajjnfbidaaGreatDoor
open Lib (hid)
open Go.RowKit
open Vx
def Held6 (wB:World) (G:Nat) (wS w:World):Prop :=
  (∀ b o,b<G→w.cell? ⟨b,o,none⟩=wB.cell? ⟨b,o,none⟩)∧w.cell? ⟨G,0,none⟩=some (cur w ⟨G,0,none⟩)∧w.cell? ⟨G,1,none⟩=some (cur w ⟨G,1,none⟩)∧w.cell? ⟨G,2,none⟩=some (cur w ⟨G,2,none⟩)∧w.cell? ⟨G,3,none⟩=some (cur w ⟨G,3,none⟩)∧w.cell? ⟨G,4,none⟩=some (cur w ⟨G,4,none⟩)∧w.cell? ⟨G,5,none⟩=some (cur w ⟨G,5,none⟩)∧w.frozen? ⟨G,0,none⟩=false∧w.frozen? ⟨G,1,none⟩=false∧w.frozen? ⟨G,2,none⟩=false∧w.frozen? ⟨G,3,none⟩=false∧w.frozen? ⟨G,4,none⟩=false∧w.frozen? ⟨G,5,none⟩=false∧Kept 6 48 wB (G) w∧Stay wS w
theorem Kept.held6 {wB wS w:World} {G:Nat} (h:Kept 6 48 wB G w) (hS:Stay wS w):Held6 wB G wS w:=by
 obtain ⟨hb,cs,hs,hp,hg⟩:=id h
 exact ⟨below_cell hb,cur_of hg (by omega),cur_of hg (by omega),cur_of hg (by omega),cur_of hg (by omega),cur_of hg (by omega),cur_of hg (by omega),frozen_of_row w G 0 _ _ hg,frozen_of_row w G 1 _ _ hg,frozen_of_row w G 2 _ _ hg,frozen_of_row w G 3 _ _ hg,frozen_of_row w G 4 _ _ hg,frozen_of_row w G 5 _ _ hg,h,hS⟩
theorem Held6.kept {wB wS w:World} {G:Nat} (h:Held6 wB G wS w):Kept 6 48 wB G w:=by
 obtain ⟨-,-,-,-,-,-,-,-,-,-,-,-,-,h,-⟩:=h
 exact h
theorem Held6.stay {wB wS w:World} {G:Nat} (h:Held6 wB G wS w):Stay wS w:=by
 obtain ⟨-,-,-,-,-,-,-,-,-,-,-,-,-,-,h⟩:=h
 exact h
theorem Held6.call {wB wS w w':World} {G:Nat} (h:Held6 wB G wS w) (hb:Below w.heap.size w w'):Held6 wB G wS w':=(h.kept.call hb).held6 (h.stay.call hb)
theorem Kept.begin6 {wB w:World} {G:Nat} (h:Kept 6 48 wB G w):Held6 wB G w w.drew:=h.drew.held6 (fun _ _ hv=>hv.keep ⟨rfl,rfl,rfl,Nat.le_refl _,fun _ _=>rfl⟩)
theorem plain6 {s1 s2:Bool} {A1 A2 A3 A4:Option Addr} {n1 c1 n2 c2 n3 c3 n4 c4:Nat}:Plain #[.bool s1,.slice A1 n1 c1,.slice A2 n2 c2,.bool s2,.slice A3 n3 c3,.slice A4 n4 c4]:=by
 intro i k n
 match i with
 | 0=>exact fun h=>by cases h
 | 1=>exact fun h=>by cases h
 | 2=>exact fun h=>by cases h
 | 3=>exact fun h=>by cases h
 | 4=>exact fun h=>by cases h
 | 5=>exact fun h=>by cases h
 | _+6=>exact fun h=>by cases h
theorem Held6.store {wB wS w:World} {G:Nat} {s1 s2:Bool} {A1 A2 A3 A4:Option Addr} {n1 c1 n2 c2 n3 c3 n4 c4:Nat} (h:Held6 wB G wS w) :
   Held6 wB G wS ((((((w.setCell ⟨G,0,none⟩ (.bool s1)).setCell ⟨G,1,none⟩ (.slice A1 n1 c1)).setCell ⟨G,2,none⟩ (.slice A2 n2 c2)).setCell ⟨G,3,none⟩ (.bool s2)).setCell ⟨G,4,none⟩ (.slice A3 n3 c3)).setCell ⟨G,5,none⟩ (.slice A4 n4 c4)):=by
 have k0:=h.kept
 have k1:=k0.set (i:=0) (bool_plain s1)
 have k2:=k1.set (i:=1) (slice_plain A1 n1 c1)
 have k3:=k2.set (i:=2) (slice_plain A2 n2 c2)
 have k4:=k3.set (i:=3) (bool_plain s2)
 have k5:=k4.set (i:=4) (slice_plain A3 n3 c3)
 have k6:=k5.set (i:=5) (slice_plain A4 n4 c4)
 exact k6.held6 ((((((h.stay.put k0).put k1).put k2).put k3).put k4).put k5)
theorem six {l:List Value} (h:l.length=6):∃ x0 x1 x2 x3 x4 x5,l=[x0,x1,x2,x3,x4,x5]:=by
 rcases l with _ | ⟨x0,l⟩
 · simp only [List.length_nil] at h;omega
 rcases l with _ | ⟨x1,l⟩
 · simp only [List.length_nil,List.length_cons] at h;omega
 rcases l with _ | ⟨x2,l⟩
 · simp only [List.length_nil,List.length_cons] at h;omega
 rcases l with _ | ⟨x3,l⟩
 · simp only [List.length_nil,List.length_cons] at h;omega
 rcases l with _ | ⟨x4,l⟩
 · simp only [List.length_nil,List.length_cons] at h;omega
 rcases l with _ | ⟨x5,l⟩
 · simp only [List.length_nil,List.length_cons] at h;omega
 rcases l with _ | ⟨x6,l⟩
 · exact ⟨x0,x1,x2,x3,x4,x5,rfl⟩
 · simp only [List.length_cons] at h;omega
theorem setcell_heap6 {w:World} {G:Nat} {T:TypeId} {cs:Array Value} (hs:cs.size=6) (hg:w.heap[G]?=some (.cells cs T (0,0))) (a b c d e f:Value) :
   ((((((w.setCell ⟨G,0,none⟩ a).setCell ⟨G,1,none⟩ b).setCell ⟨G,2,none⟩ c).setCell ⟨G,3,none⟩ d).setCell ⟨G,4,none⟩ e).setCell ⟨G,5,none⟩ f).heap[G]?=some (.cells #[a,b,c,d,e,f] T (0,0)):=by
 have g1:=heap_setCell_same w G 0 _ _ a hg
 have g2:=heap_setCell_same _ G 1 _ _ b g1
 have g3:=heap_setCell_same _ G 2 _ _ c g2
 have g4:=heap_setCell_same _ G 3 _ _ d g3
 have g5:=heap_setCell_same _ G 4 _ _ e g4
 have g6:=heap_setCell_same _ G 5 _ _ f g5
 rw [g6]
 obtain ⟨l⟩:=cs
 obtain ⟨x0,x1,x2,x3,x4,x5,rfl⟩:=six hs
 rfl
theorem Held6.done {wB wS w:World} {G:Nat} {s1 s2:Bool} {A1 A2 A3 A4:Option Addr} {n1 c1 n2 c2 n3 c3 n4 c4:Nat} {p q:Rat} (h:Held6 wB G wS w) (hp:IsNum w (.agg #[.bool s1,.slice A1 n1 c1,.slice A2 n2 c2]) p) (hq:IsNum w (.agg #[.bool s2,.slice A3 n3 c3,.slice A4 n4 c4]) q) :
   IsBox ((((((w.setCell ⟨G,0,none⟩ (.bool s1)).setCell ⟨G,1,none⟩ (.slice A1 n1 c1)).setCell ⟨G,2,none⟩ (.slice A2 n2 c2)).setCell ⟨G,3,none⟩ (.bool s2)).setCell ⟨G,4,none⟩ (.slice A3 n3 c3)).setCell ⟨G,5,none⟩ (.slice A4 n4 c4)) (.agg #[.bool s1,.slice A1 n1 c1,.slice A2 n2 c2,.bool s2,.slice A3 n3 c3,.slice A4 n4 c4]) p q ∧
   Below G wB ((((((w.setCell ⟨G,0,none⟩ (.bool s1)).setCell ⟨G,1,none⟩ (.slice A1 n1 c1)).setCell ⟨G,2,none⟩ (.slice A2 n2 c2)).setCell ⟨G,3,none⟩ (.bool s2)).setCell ⟨G,4,none⟩ (.slice A3 n3 c3)).setCell ⟨G,5,none⟩ (.slice A4 n4 c4)) ∧
   ((((((w.setCell ⟨G,0,none⟩ (.bool s1)).setCell ⟨G,1,none⟩ (.slice A1 n1 c1)).setCell ⟨G,2,none⟩ (.slice A2 n2 c2)).setCell ⟨G,3,none⟩ (.bool s2)).setCell ⟨G,4,none⟩ (.slice A3 n3 c3)).setCell ⟨G,5,none⟩ (.slice A4 n4 c4)).heap[G]?=some (.cells #[.bool s1,.slice A1 n1 c1,.slice A2 n2 c2,.bool s2,.slice A3 n3 c3,.slice A4 n4 c4] 48 (0,0)):=by
 have k0:=h.kept
 have k1:=k0.set (i:=0) (bool_plain s1)
 have k2:=k1.set (i:=1) (slice_plain A1 n1 c1)
 have k3:=k2.set (i:=2) (slice_plain A2 n2 c2)
 have k4:=k3.set (i:=3) (bool_plain s2)
 have k5:=k4.set (i:=4) (slice_plain A3 n3 c3)
 have k6:=k5.set (i:=5) (slice_plain A4 n4 c4)
 refine ⟨IsNum.pair (((((((hp.put k0).put k1).put k2).put k3).put k4).put k5)) (((((((hq.put k0).put k1).put k2).put k3).put k4).put k5)),k6.1,?_⟩
 obtain ⟨_,cs,hs,_,hg⟩:=k0
 exact setcell_heap6 hs hg _ _ _ _ _ _
theorem point_any {w:World} {vx:Value} {x:Rat} (hx:IsNum w vx x) (hs:siz x≤1099511627776) :
   Calls Tryz.prog 47 #[vx] w (BoxRet w x x):=by
 obtain ⟨A1,c1,A2,c2,rfl,hx1,hx2⟩:=hx.opened
 obtain ⟨wB,hwB⟩:=eX ((w.alloc (.cells #[.bool (decide (x.num<0)),.slice A1 (len x.num.natAbs) c1,.slice A2 (len (below x.den)) c2] 31)).alloc (.cells #[.bool false,.slice none 0 0,.slice none 0 0,.bool false,.slice none 0 0,.slice none 0 0] 48))
 obtain ⟨b0,gA,gB⟩:=news2' hwB
 obtain ⟨k0,k1,k2⟩:=cells3 gA
 have HK0:=hid (Kept.start (T:=48) rfl plain6 gB)
 have HB0:=hid b0
 have hlt1:w.heap.size<w.heap.size+1:=by omega
 clear gA gB b0
 have hxB:=hx.keep HB0.out
 have H0:=HK0.out.begin6
 have H0':=H0
 unfold Held6 at H0'
 have HX:=fun (w':World) (hk:Held6 wB (w.heap.size+1) wB w')=>hid (numCopied_any (hk.stay.num hxB) hs)
 clear hx hs hxB hx1 hx2
 go_enter Tryz.func47,Tryz.ntmps47
 go_upto_region 1 with fail
 rw [←hwB]
 clear hwB
 go_wp2_with fail
 go_region_held3 (fun w'=>(∀ b o,b<w.heap.size+1→w'.cell? ⟨b,o,none⟩=wB.cell? ⟨b,o,none⟩)∧w'.cell? ⟨w.heap.size+1,0,none⟩=some (cur w' ⟨w.heap.size+1,0,none⟩)∧w'.cell? ⟨w.heap.size+1,1,none⟩=some (cur w' ⟨w.heap.size+1,1,none⟩)∧w'.cell? ⟨w.heap.size+1,2,none⟩=some (cur w' ⟨w.heap.size+1,2,none⟩)∧w'.cell? ⟨w.heap.size+1,3,none⟩=some (cur w' ⟨w.heap.size+1,3,none⟩)∧w'.cell? ⟨w.heap.size+1,4,none⟩=some (cur w' ⟨w.heap.size+1,4,none⟩)∧w'.cell? ⟨w.heap.size+1,5,none⟩=some (cur w' ⟨w.heap.size+1,5,none⟩)∧w'.frozen? ⟨w.heap.size+1,0,none⟩=false∧w'.frozen? ⟨w.heap.size+1,1,none⟩=false∧w'.frozen? ⟨w.heap.size+1,2,none⟩=false∧w'.frozen? ⟨w.heap.size+1,3,none⟩=false∧w'.frozen? ⟨w.heap.size+1,4,none⟩=false∧w'.frozen? ⟨w.heap.size+1,5,none⟩=false∧Kept 6 48 wB (w.heap.size+1) w'∧Stay wB w')
   (first | with_reducible exact H0' | with_reducible exact hk1' | with_reducible exact hk2' | exact hk2.store)
   (first | (go_at_call 93;refine ((HX _ hk1).out).mono ?_;rintro e w2 ⟨v2,rfl,hv2,hbl2⟩;obtain ⟨C3,j3,C4,j4,rfl,-,-⟩:=hv2.opened;have hk2:=hk1.call hbl2;have hk2':=hk2;unfold Held6 at hk2') | (go_at_call 93;refine ((HX _ H0).out).mono ?_;rintro e w1 ⟨v1,rfl,hv1,hbl1⟩;obtain ⟨C1,j1,C2,j2,rfl,-,-⟩:=hv1.opened;have hk1:=H0.call hbl1;have hk1':=hk1;unfold Held6 at hk1'))
 rename_i hHl
 clear hHl
 have hv1':=hv1.keep hbl2
 have HD:=hk2.done (p:=x) (q:=x) (s1:=decide (x.num<0)) (A1:=C1) (n1:=len x.num.natAbs) (c1:=j1) (A2:=C2) (n2:=len (below x.den)) (c2:=j2) (s2:=decide (x.num<0)) (A3:=C3) (n3:=len x.num.natAbs) (c3:=j3) (A4:=C4) (n4:=len (below x.den)) (c4:=j4) (hv1') (hv2)
 obtain ⟨d1,d2,d3⟩:=HD
 obtain ⟨r0,r1,r2,r3,r4,r5⟩:=cells6 d3
 have HD:=hid (And.intro d1 d2)
 clear d1 d2 d3
 go_wp2_with fail
 refine bodyPost_ret (v:=.agg #[.bool (decide (x.num<0)),.slice (C1) (len x.num.natAbs) (j1),.slice (C2) (len (below x.den)) (j2),.bool (decide (x.num<0)),.slice (C3) (len x.num.natAbs) (j3),.slice (C4) (len (below x.den)) (j4)]) ?_ rfl ⟨_,rfl,HD.out.1,below_to HB0.out (by omega) HD.out.2⟩
 simp [results,Tryz.results47,go_sem,r0,r1,r2,r3,r4,r5]
end Go.Proofs.YtlcimajjnfbidaaGreatDoor
namespace Go.Proofs.YtlcimajjnfbidaaGreatDoor
open Lib (hid)
open Go.RowKit
open Vx
theorem sgn_even (b:Bool) {n:Nat} (t:Nat) (h:n%2=0):sgn b t^n=((t^n:Nat):Int):=by
 cases b
 · simp [sgn]
 · show (-(t:Int))^n=_
   rw [Int.neg_pow,h,Int.pow_zero,Int.one_mul]
   simp
theorem sgn_odd (b:Bool) {n:Nat} (t:Nat) (h:n%2=1):sgn b t^n=sgn b (t^n):=by
 cases b
 · simp [sgn]
 · show (-(t:Int))^n = -((t^n:Nat):Int)
   rw [Int.neg_pow,h,Int.pow_one,Int.neg_mul,Int.one_mul]
   simp
theorem pow_parts (x:Rat) (n:Nat):(x.num.natAbs^n).Coprime (x.den^n)∧0<x.den^n:=⟨Nat.Coprime.pow n n x.reduced,Nat.pow_pos x.den_pos⟩
theorem pow_val {x q:Rat} {n:Nat} {neg:Bool} (hq:q=x^n) (h:sgn neg (x.num.natAbs^n)=x.num^n):mkRat (sgn neg (x.num.natAbs^n)) (x.den^n)=q:=by
 rw [h,hq,←Rat.num_pow,←Rat.den_pow,Rat.mkRat_self]
theorem power_odd {w:World} {vx:Value} {x q:Rat} {n:Nat} (hx:IsNum w vx x) (hq:q=x^n) (hn:n≤1099511627776) (hs:siz x*n≤1099511627776) (hs1:siz x≤1099511627776) (h:x.num<0) (hp:n%2=1) :
   Calls Tryz.prog 78 #[vx,.int .i64 (n:Nat)] w (NumRet w q):=by
 obtain ⟨A1,c1,A2,c2,rfl,hx1,hx2⟩:=hx.opened
 obtain ⟨wB,hwB⟩:=eX ((w.alloc (.cells #[.bool (decide (x.num<0)),.slice A1 (len x.num.natAbs) c1,.slice A2 (len (below x.den)) c2] 31)).alloc (.cells #[.bool false,.slice none 0 0,.slice none 0 0] 31))
 obtain ⟨b0,gA,gB⟩:=news2' hwB
 obtain ⟨k0,k1,k2⟩:=cells3 gA
 have HK0:=hid (Kept.start (T:=31) rfl (plain3 _ _ _ _ _ _ _) gB)
 have HB0:=hid b0
 have hlt1:w.heap.size<w.heap.size+1:=by omega
 clear gA gB b0
 have hd:decide (x.num<0)=true:=decide_eq_true h
 have ht:(Int.tmod ((n:Nat):Int) 2==1)=true:=by
   have e:Int.tmod ((n:Nat):Int) 2=((n%2:Nat):Int):=by rw [Int.tmod_eq_emod_of_nonneg (by omega)];omega
   rw [e,hp];rfl
 rw [hd] at k0 hwB hx ⊢
 have hd0:=hd
 clear hd
 have hl1:=siz_num x
 have hl2:=siz_den x
 have HV:=hid (pow_val (neg:=true) hq (by rw [←sgn_odd _ _ hp,←hd0,sgn_self]))
 have HP:=hid (pow_parts x n)
 have HX:=fun (w':World) (hk:Held3 wB (w.heap.size+1) wB w')=>hid (pow_any (n:=n) (hx1.keep (below_to HB0.out (by omega) hk.kept.1)) hn (Nat.le_trans (Nat.mul_le_mul_right n hl1) hs) (Nat.le_trans hl1 hs1))
 have HY:=fun (w':World) (hk:Held3 wB (w.heap.size+1) wB w')=>hid (bottom_any (hx.keep (below_to HB0.out (by omega) hk.kept.1)))
 have HZ:=fun (w':World) (v:Value) (hv:Nt w' v x.den)=>hid (pow_any (n:=n) hv hn (Nat.le_trans (Nat.mul_le_mul_right n hl2) hs) (Nat.le_trans hl2 hs1))
 have H0:=HK0.out.begin
 clear hd0 h hp hq hn hs hs1 hl1 hl2
 go_enter Tryz.func78,Tryz.ntmps78
 go_upto_region 2 with fail
 rw [←hwB]
 clear hwB
 go_wp2_with fail
 go_region_held3 (fun w'=>(∀ b o,b<w.heap.size+1→w'.cell? ⟨b,o,none⟩=wB.cell? ⟨b,o,none⟩)∧w'.cell? ⟨w.heap.size+1,0,none⟩=some (cur w' ⟨w.heap.size+1,0,none⟩)∧w'.cell? ⟨w.heap.size+1,1,none⟩=some (cur w' ⟨w.heap.size+1,1,none⟩)∧w'.cell? ⟨w.heap.size+1,2,none⟩=some (cur w' ⟨w.heap.size+1,2,none⟩)∧w'.frozen? ⟨w.heap.size+1,0,none⟩=false∧w'.frozen? ⟨w.heap.size+1,1,none⟩=false∧w'.frozen? ⟨w.heap.size+1,2,none⟩=false∧Kept 3 31 wB (w.heap.size+1) w'∧Stay wB w')
   (first | exact H0 | exact hk4.store | exact hk4 | exact hk3 | exact hk2 | exact hk1)
   (first | (go_at_call_of 101 (Value.slice A1 (len x.num.natAbs) c1);refine ((HX _ ?_).out).mono ?_;assumption;rintro e w1 ⟨v1,rfl,hv1,hbl1⟩;have hk1:=Held3.call (by assumption) hbl1) | (go_at_call 89;refine ((HY _ ?_).out).mono ?_;assumption;rintro e w2 ⟨v2,rfl,hv2,hbl2⟩;have hk2:=Held3.call (by assumption) hbl2) | (go_at_call_of 101 v2;refine ((HZ _ _ hv2).out).mono ?_;rintro e w3 ⟨v3,rfl,hv3,hbl3⟩;have hk3:=Held3.call (by assumption) hbl3) | (go_at_call 88;refine (fraction_to ((hv1.keep hbl2).keep hbl3) hv3 HP.out.2 HP.out.1 HV.out).mono ?_;rintro e w4 ⟨v4,rfl,hv4,hbl4⟩;obtain ⟨C1,j1,C2,j2,rfl,-,-⟩:=hv4.opened;have hk4:=Held3.call (by assumption) hbl4))
 rename_i hHl
 clear hHl
 have HD:=hk4.done (q:=q) (b:=decide (q.num<0)) (A1:=C1) (n1:=len q.num.natAbs) (c1:=j1) (A2:=C2) (n2:=len (below q.den)) (c2:=j2) (hv4)
 obtain ⟨d1,d2,d3⟩:=HD
 obtain ⟨r0,r1,r2⟩:=cells3 d3
 have HD:=hid (And.intro d1 d2)
 clear d1 d2 d3
 go_wp2_with fail
 refine bodyPost_ret (v:=.agg #[.bool (decide (q.num<0)),.slice (C1) (len q.num.natAbs) (j1),.slice (C2) (len (below q.den)) (j2)]) ?_ rfl ⟨_,rfl,HD.out.1,below_to HB0.out (by omega) HD.out.2⟩
 simp [results,Tryz.results78,go_sem,r0,r1,r2]
theorem power_even {w:World} {vx:Value} {x q:Rat} {n:Nat} (hx:IsNum w vx x) (hq:q=x^n) (hn:n≤1099511627776) (hs:siz x*n≤1099511627776) (hs1:siz x≤1099511627776) (h:x.num<0) (hp:n%2=0) :
   Calls Tryz.prog 78 #[vx,.int .i64 (n:Nat)] w (NumRet w q):=by
 obtain ⟨A1,c1,A2,c2,rfl,hx1,hx2⟩:=hx.opened
 obtain ⟨wB,hwB⟩:=eX ((w.alloc (.cells #[.bool (decide (x.num<0)),.slice A1 (len x.num.natAbs) c1,.slice A2 (len (below x.den)) c2] 31)).alloc (.cells #[.bool false,.slice none 0 0,.slice none 0 0] 31))
 obtain ⟨b0,gA,gB⟩:=news2' hwB
 obtain ⟨k0,k1,k2⟩:=cells3 gA
 have HK0:=hid (Kept.start (T:=31) rfl (plain3 _ _ _ _ _ _ _) gB)
 have HB0:=hid b0
 have hlt1:w.heap.size<w.heap.size+1:=by omega
 clear gA gB b0
 have hd:decide (x.num<0)=true:=decide_eq_true h
 have ht:(Int.tmod ((n:Nat):Int) 2==1)=false:=by
   have e:Int.tmod ((n:Nat):Int) 2=((n%2:Nat):Int):=by rw [Int.tmod_eq_emod_of_nonneg (by omega)];omega
   rw [e,hp];rfl
 rw [hd] at k0 hwB hx ⊢
 have hd0:=hd
 clear hd
 have hl1:=siz_num x
 have hl2:=siz_den x
 have HV:=hid (pow_val (neg:=false) hq (by have:=sgn_even true x.num.natAbs hp;rw [←hd0,sgn_self] at this;rw [this];rfl))
 have HP:=hid (pow_parts x n)
 have HX:=fun (w':World) (hk:Held3 wB (w.heap.size+1) wB w')=>hid (pow_any (n:=n) (hx1.keep (below_to HB0.out (by omega) hk.kept.1)) hn (Nat.le_trans (Nat.mul_le_mul_right n hl1) hs) (Nat.le_trans hl1 hs1))
 have HY:=fun (w':World) (hk:Held3 wB (w.heap.size+1) wB w')=>hid (bottom_any (hx.keep (below_to HB0.out (by omega) hk.kept.1)))
 have HZ:=fun (w':World) (v:Value) (hv:Nt w' v x.den)=>hid (pow_any (n:=n) hv hn (Nat.le_trans (Nat.mul_le_mul_right n hl2) hs) (Nat.le_trans hl2 hs1))
 have H0:=HK0.out.begin
 clear hd0 h hp hq hn hs hs1 hl1 hl2
 go_enter Tryz.func78,Tryz.ntmps78
 go_upto_region 2 with fail
 rw [←hwB]
 clear hwB
 go_wp2_with fail
 go_region_held3 (fun w'=>(∀ b o,b<w.heap.size+1→w'.cell? ⟨b,o,none⟩=wB.cell? ⟨b,o,none⟩)∧w'.cell? ⟨w.heap.size+1,0,none⟩=some (cur w' ⟨w.heap.size+1,0,none⟩)∧w'.cell? ⟨w.heap.size+1,1,none⟩=some (cur w' ⟨w.heap.size+1,1,none⟩)∧w'.cell? ⟨w.heap.size+1,2,none⟩=some (cur w' ⟨w.heap.size+1,2,none⟩)∧w'.frozen? ⟨w.heap.size+1,0,none⟩=false∧w'.frozen? ⟨w.heap.size+1,1,none⟩=false∧w'.frozen? ⟨w.heap.size+1,2,none⟩=false∧Kept 3 31 wB (w.heap.size+1) w'∧Stay wB w')
   (first | exact H0 | exact hk4.store | exact hk4 | exact hk3 | exact hk2 | exact hk1)
   (first | (go_at_call_of 101 (Value.slice A1 (len x.num.natAbs) c1);refine ((HX _ ?_).out).mono ?_;assumption;rintro e w1 ⟨v1,rfl,hv1,hbl1⟩;have hk1:=Held3.call (by assumption) hbl1) | (go_at_call 89;refine ((HY _ ?_).out).mono ?_;assumption;rintro e w2 ⟨v2,rfl,hv2,hbl2⟩;have hk2:=Held3.call (by assumption) hbl2) | (go_at_call_of 101 v2;refine ((HZ _ _ hv2).out).mono ?_;rintro e w3 ⟨v3,rfl,hv3,hbl3⟩;have hk3:=Held3.call (by assumption) hbl3) | (go_at_call 88;refine (fraction_to ((hv1.keep hbl2).keep hbl3) hv3 HP.out.2 HP.out.1 HV.out).mono ?_;rintro e w4 ⟨v4,rfl,hv4,hbl4⟩;obtain ⟨C1,j1,C2,j2,rfl,-,-⟩:=hv4.opened;have hk4:=Held3.call (by assumption) hbl4))
 rename_i hHl
 clear hHl
 have HD:=hk4.done (q:=q) (b:=decide (q.num<0)) (A1:=C1) (n1:=len q.num.natAbs) (c1:=j1) (A2:=C2) (n2:=len (below q.den)) (c2:=j2) (hv4)
 obtain ⟨d1,d2,d3⟩:=HD
 obtain ⟨r0,r1,r2⟩:=cells3 d3
 have HD:=hid (And.intro d1 d2)
 clear d1 d2 d3
 go_wp2_with fail
 refine bodyPost_ret (v:=.agg #[.bool (decide (q.num<0)),.slice (C1) (len q.num.natAbs) (j1),.slice (C2) (len (below q.den)) (j2)]) ?_ rfl ⟨_,rfl,HD.out.1,below_to HB0.out (by omega) HD.out.2⟩
 simp [results,Tryz.results78,go_sem,r0,r1,r2]
set_option linter.unusedSimpArgs false in
theorem power_pos {w:World} {vx:Value} {x q:Rat} {n:Nat} (hx:IsNum w vx x) (hq:q=x^n) (hn:n≤1099511627776) (hs:siz x*n≤1099511627776) (hs1:siz x≤1099511627776) (h:¬ x.num<0) :
    Calls Tryz.prog 78 #[vx,.int .i64 (n:Nat)] w (NumRet w q):=by
  obtain ⟨A1,c1,A2,c2,rfl,hx1,hx2⟩:=hx.opened
  obtain ⟨wB,hwB⟩:=eX ((w.alloc (.cells #[.bool (decide (x.num<0)),.slice A1 (len x.num.natAbs) c1,.slice A2 (len (below x.den)) c2] 31)).alloc (.cells #[.bool false,.slice none 0 0,.slice none 0 0] 31))
  obtain ⟨b0,gA,gB⟩:=news2' hwB
  obtain ⟨k0,k1,k2⟩:=cells3 gA
  have HK0:=hid (Kept.start (T:=31) rfl (plain3 _ _ _ _ _ _ _) gB)
  have HB0:=hid b0
  have hlt1:w.heap.size<w.heap.size+1:=by omega
  clear gA gB b0
  have hd:decide (x.num<0)=false:=decide_eq_false h
  rw [hd] at k0 hwB hx ⊢
  clear hd
  have hl1:=siz_num x
  have hl2:=siz_den x
  have HV:=hid (pow_val (neg:=false) hq (by show ((x.num.natAbs^n:Nat):Int)=_;rw [Int.natCast_pow,Int.natAbs_of_nonneg (by omega)]))
  have HP:=hid (pow_parts x n)
  have HX:=fun (w':World) (hk:Held3 wB (w.heap.size+1) wB w')=>hid (pow_any (n:=n) (hx1.keep (below_to HB0.out (by omega) hk.kept.1)) hn (Nat.le_trans (Nat.mul_le_mul_right n hl1) hs) (Nat.le_trans hl1 hs1))
  have HY:=fun (w':World) (hk:Held3 wB (w.heap.size+1) wB w')=>hid (bottom_any (hx.keep (below_to HB0.out (by omega) hk.kept.1)))
  have HZ:=fun (w':World) (v:Value) (hv:Nt w' v x.den)=>hid (pow_any (n:=n) hv hn (Nat.le_trans (Nat.mul_le_mul_right n hl2) hs) (Nat.le_trans hl2 hs1))
  have H0:=HK0.out.begin
  clear h hq hn hs hs1 hl1 hl2
  go_enter Tryz.func78,Tryz.ntmps78
  go_upto_region 2 with fail
  rw [←hwB]
  clear hwB
  go_wp2_with fail
  refine wp_region_held_drew (S:=(fun w'=>(∀ b o,b<w.heap.size+1→w'.cell? ⟨b,o,none⟩=wB.cell? ⟨b,o,none⟩)∧w'.cell? ⟨w.heap.size+1,0,none⟩=some (cur w' ⟨w.heap.size+1,0,none⟩)∧w'.cell? ⟨w.heap.size+1,1,none⟩=some (cur w' ⟨w.heap.size+1,1,none⟩)∧w'.cell? ⟨w.heap.size+1,2,none⟩=some (cur w' ⟨w.heap.size+1,2,none⟩)∧w'.frozen? ⟨w.heap.size+1,0,none⟩=false∧w'.frozen? ⟨w.heap.size+1,1,none⟩=false∧w'.frozen? ⟨w.heap.size+1,2,none⟩=false∧Kept 3 31 wB (w.heap.size+1) w'∧Stay wB w')) (by kernel_rfl) ?_ (fun hHeld=>?_)
  · (try dsimp only)
    exact H0
  refine wpAnyH_take (i:=0) (v:=?v0) rfl (by kernel_rfl) (by kernel_rfl) (by kernel_rfl) (fun _ _ _ h=>h) (Or.inl ⟨by rfl,?h0⟩) (by assumption) ?r0
  case h0 =>
    intro w hSw
    (try dsimp only at hSw)
    go_simp
    try with_reducible rfl
  try simp only [Act.put,List.setIfInBounds_toArray,List.set_cons_zero,List.set_cons_succ]
  refine wpAnyH_take (i:=1) (v:=?v1) rfl (by kernel_rfl) (by kernel_rfl) (by kernel_rfl) (fun _ _ _ h=>h) (Or.inl ⟨by rfl,?h1⟩) (by assumption) ?r1
  case h1 =>
    intro w hSw
    (try dsimp only at hSw)
    go_simp
    try with_reducible rfl
  try simp only [Act.put,List.setIfInBounds_toArray,List.set_cons_zero,List.set_cons_succ]
  refine wpAnyH_take (i:=2) (v:=?v2) rfl (by kernel_rfl) (by kernel_rfl) (by kernel_rfl) (fun _ _ _ h=>h) (Or.inl ⟨by rfl,?h2⟩) (by assumption) ?r2
  case h2 =>
    intro w hSw
    (try dsimp only at hSw)
    go_simp
    try with_reducible rfl
  try simp only [Act.put,List.setIfInBounds_toArray,List.set_cons_zero,List.set_cons_succ]
  refine wpAnyH_take (i:=3) rfl (by kernel_rfl) (by kernel_rfl) (by kernel_rfl) (fun _ _ _ h=>h) (Or.inr ⟨by rfl,rfl⟩) (by assumption) ?_
  try simp only [Act.put,List.setIfInBounds_toArray,List.set_cons_zero,List.set_cons_succ]
  refine wpAnyH_take (i:=4) rfl (by kernel_rfl) (by kernel_rfl) (by kernel_rfl) (fun _ _ _ h=>h) (Or.inr ⟨by rfl,rfl⟩) (by assumption) ?_
  try simp only [Act.put,List.setIfInBounds_toArray,List.set_cons_zero,List.set_cons_succ]
  refine wpAnyH_take (i:=5) rfl (by kernel_rfl) (by kernel_rfl) (by kernel_rfl) (fun _ _ _ h=>h) (Or.inr ⟨by rfl,rfl⟩) (by assumption) ?_
  try simp only [Act.put,List.setIfInBounds_toArray,List.set_cons_zero,List.set_cons_succ]
  refine wpAnyH_take (i:=6) (v:=?v6) rfl (by kernel_rfl) (by kernel_rfl) (by kernel_rfl) (fun _ _ _ h=>h) (Or.inl ⟨by rfl,?h6⟩) (by assumption) ?r6
  case h6 =>
    intro w hSw
    (try dsimp only at hSw)
    go_simp
    try with_reducible rfl
  try simp only [Act.put,List.setIfInBounds_toArray,List.set_cons_zero,List.set_cons_succ]
  refine wpAnyH_take (i:=7) (v:=?v7) rfl (by kernel_rfl) (by kernel_rfl) (by kernel_rfl) (fun _ _ _ h=>h) (Or.inl ⟨by rfl,?h7⟩) (by assumption) ?r7
  case h7 =>
    intro w hSw
    (try dsimp only at hSw)
    go_simp
    try with_reducible rfl
  try simp only [Act.put,List.setIfInBounds_toArray,List.set_cons_zero,List.set_cons_succ]
  refine wpAnyH_take (i:=8) (v:=?v8) rfl (by kernel_rfl) (by kernel_rfl) (by kernel_rfl) (fun _ _ _ h=>h) (Or.inl ⟨by rfl,?h8⟩) (by assumption) ?r8
  case h8 =>
    intro w hSw
    (try dsimp only at hSw)
    go_simp
    try with_reducible rfl
  try simp only [Act.put,List.setIfInBounds_toArray,List.set_cons_zero,List.set_cons_succ]
  refine wpAnyH_take (i:=9) (v:=?v9) rfl (by kernel_rfl) (by kernel_rfl) (by kernel_rfl) (fun _ _ _ h=>h) (Or.inl ⟨by rfl,?h9⟩) (by assumption) ?r9
  case h9 =>
    intro w hSw
    (try dsimp only at hSw)
    go_simp
    try with_reducible rfl
  try simp only [Act.put,List.setIfInBounds_toArray,List.set_cons_zero,List.set_cons_succ]
  refine wpAnyH_take (i:=11) (v:=?v11) rfl (by kernel_rfl) (by kernel_rfl) (by kernel_rfl) (fun _ _ _ h=>h) (Or.inl ⟨by rfl,?h11⟩) (by assumption) ?r11
  case h11 =>
    intro w hSw
    (try dsimp only at hSw)
    go_simp
    try with_reducible rfl
  try simp only [Act.put,List.setIfInBounds_toArray,List.set_cons_zero,List.set_cons_succ]
  refine wpAnyH_take (i:=13) (v:=?v13) rfl (by kernel_rfl) (by kernel_rfl) (by kernel_rfl) (fun _ _ _ h=>h) (Or.inl ⟨by rfl,?h13⟩) (by assumption) ?r13
  case h13 =>
    intro w hSw
    (try dsimp only at hSw)
    go_simp
    try with_reducible rfl
  try simp only [Act.put,List.setIfInBounds_toArray,List.set_cons_zero,List.set_cons_succ]
  refine wpAnyH_ready (rs:=[10]) (by kernel_rfl) (by simp) ?_
  refine AllReadyH.cons rfl (fun K hK=>?_) AllReadyH.nil
  go_simp
  go_at_call_of 101 (Value.slice A1 (len x.num.natAbs) c1)
  refine ((HX _ ?_).out).mono ?_
  · assumption
  rintro e w1 ⟨v1,rfl,hv1,hbl1⟩
  have hk1:=Held3.call (by assumption) hbl1
  refine hK.out _ _ ?_ (fun hHeld=>?_)
  · (try dsimp only)
    exact hk1
  clear hK K
  try simp only [Act.put,List.setIfInBounds_toArray,List.set_cons_zero,List.set_cons_succ]
  refine wpAnyH_ready (rs:=[12]) (by kernel_rfl) (by simp) ?_
  refine AllReadyH.cons rfl (fun K hK=>?_) AllReadyH.nil
  go_simp
  go_at_call 89
  refine ((HY _ ?_).out).mono ?_
  · assumption
  rintro e w2 ⟨v2,rfl,hv2,hbl2⟩
  have hk2:=Held3.call (by assumption) hbl2
  refine hK.out _ _ ?_ (fun hHeld=>?_)
  · (try dsimp only)
    exact hk2
  clear hK K
  try simp only [Act.put,List.setIfInBounds_toArray,List.set_cons_zero,List.set_cons_succ]
  refine wpAnyH_ready (rs:=[14]) (by kernel_rfl) (by simp) ?_
  refine AllReadyH.cons rfl (fun K hK=>?_) AllReadyH.nil
  go_simp
  go_at_call_of 101 v2
  refine ((HZ _ _ hv2).out).mono ?_
  rintro e w3 ⟨v3,rfl,hv3,hbl3⟩
  have hk3:=Held3.call (by assumption) hbl3
  refine hK.out _ _ ?_ (fun hHeld=>?_)
  · (try dsimp only)
    exact hk3
  clear hK K
  try simp only [Act.put,List.setIfInBounds_toArray,List.set_cons_zero,List.set_cons_succ]
  refine wpAnyH_ready (rs:=[15]) (by kernel_rfl) (by simp) ?_
  refine AllReadyH.cons rfl (fun K hK=>?_) AllReadyH.nil
  go_simp
  go_at_call 88
  refine (fraction_to ((hv1.keep hbl2).keep hbl3) hv3 HP.out.2 HP.out.1 HV.out).mono ?_
  rintro e w4 ⟨v4,rfl,hv4,hbl4⟩
  obtain ⟨C1,j1,C2,j2,rfl,-,-⟩:=hv4.opened
  have hk4:=Held3.call (by assumption) hbl4
  refine hK.out _ _ ?_ (fun hHeld=>?_)
  · (try dsimp only)
    exact hk4
  clear hK K
  try simp only [Act.put,List.setIfInBounds_toArray,List.set_cons_zero,List.set_cons_succ]
  refine wpAnyH_ready (rs:=[16]) (by kernel_rfl) (by simp) ?_
  refine AllReadyH.cons rfl (fun K hK=>?_) AllReadyH.nil
  go_simp
  refine hK.out _ _ ?_ (fun hHeld=>?_)
  · (try dsimp only)
    exact hk4.store
  clear hK K
  try simp only [Act.put,List.setIfInBounds_toArray,List.set_cons_zero,List.set_cons_succ]
  refine wpAnyH_done (by kernel_rfl) ?_ _
  have HD:=hk4.done (q:=q) (b:=decide (q.num<0)) (A1:=C1) (n1:=len q.num.natAbs) (c1:=j1) (A2:=C2) (n2:=len (below q.den)) (c2:=j2) (hv4)
  obtain ⟨d1,d2,d3⟩:=HD
  obtain ⟨r0,r1,r2⟩:=cells3 d3
  have HD:=hid (And.intro d1 d2)
  clear d1 d2 d3
  go_wp2_with fail
  refine bodyPost_ret (v:=.agg #[.bool (decide (q.num<0)),.slice (C1) (len q.num.natAbs) (j1),.slice (C2) (len (below q.den)) (j2)]) ?_ rfl ⟨_,rfl,HD.out.1,below_to HB0.out (by omega) HD.out.2⟩
  simp [results,Tryz.results78,go_sem,r0,r1,r2]
theorem numPower_any {w:World} {vx:Value} {x:Rat} {n:Nat} (hx:IsNum w vx x) (hn:n≤1099511627776) (hs:siz x*n≤1099511627776) (hs1:siz x≤1099511627776) :
   Calls Tryz.prog 78 #[vx,.int .i64 (n:Nat)] w (NumRet w (x^n)):=by
 rcases Decidable.em (x.num<0) with h | h
 · rcases Nat.mod_two_eq_zero_or_one n with hp | hp
   · exact power_even hx rfl hn hs hs1 h hp
   · exact power_odd hx rfl hn hs hs1 h hp
 · exact power_pos hx rfl hn hs hs1 h
end Go.Proofs.YtlcimajjnfbidaaGreatDoor
namespace Go.Proofs.YtlcimajjnfbidaaGreatDoor
open Lib (hid)
open Go.RowKit
open Vx
def BoxErrRet (w:World) (a b:Rat) (c:Int) (e:Ending) (w':World):Prop:=∃ v,e=.returned (.tuple #[v,.int .i64 c])∧IsBox w' v a b∧Below w.heap.size w w'
theorem cmpQ_le {x y:Rat} (h:x≤y):¬ 0<cmpQ x y:=by
 unfold cmpQ
 split
 · omega
 · split
   · omega
   · rename_i h1 h2
     exact absurd (Rat.le_antisymm h (Rat.not_lt.1 h1)) h2
theorem cmpQ_gt {x y:Rat} (h:¬ x≤y):0<cmpQ x y:=by
 unfold cmpQ
 rw [if_neg (fun e=>h (Rat.le_of_lt e)),if_neg (fun e=>h (by rw [e];exact Rat.le_refl))]
 omega
theorem span_yes {w:World} {vx vy:Value} {x y:Rat} (hx:IsNum w vx x) (hy:IsNum w vy y) (hs:siz x≤34359738368) (ht:siz y≤34359738368) (h:x≤y) :
   Calls Tryz.prog 56 #[vx,vy] w (BoxErrRet w x y 0):=by
 obtain ⟨A1,c1,A2,c2,rfl,-,-⟩:=id hx.opened
 obtain ⟨A3,c3,A4,c4,rfl,-,-⟩:=id hy.opened
 obtain ⟨wB,hwB⟩:=eX (((w.alloc (.cells #[.bool (decide (x.num<0)),.slice A1 (len x.num.natAbs) c1,.slice A2 (len (below x.den)) c2] 31)).alloc (.cells #[.bool (decide (y.num<0)),.slice A3 (len y.num.natAbs) c3,.slice A4 (len (below y.den)) c4] 31)).alloc (.cells #[.bool false,.slice none 0 0,.slice none 0 0,.bool false,.slice none 0 0,.slice none 0 0] 48))
 obtain ⟨b0,g0,g1,g2⟩:=news3' hwB
 obtain ⟨k0,k1,k2⟩:=cells3 g0
 obtain ⟨k3,k4,k5⟩:=cells3 g1
 have HK0:=hid (Kept.start (T:=48) rfl plain6 g2)
 have HB0:=hid b0
 have hlt1:w.heap.size<w.heap.size+2:=by omega
 have hlt2:w.heap.size+1<w.heap.size+2:=by omega
 clear g0 g1 g2 b0
 have HC:=hid (numCmp_any (hx.keep HB0.out) (hy.keep HB0.out) hs ht)
 obtain ⟨cc,hcc⟩:=eX (cmpQ x y:Int)
 have hle:decide (cc>0)=false:=decide_eq_false (by rw [hcc];exact cmpQ_le h)
 rw [←hcc] at HC
 clear hcc h
 have HX:=fun (w1 w':World) (hb:Below w.heap.size w w1) (hk:Held6 wB (w.heap.size+2) w1 w')=>hid (numCopied_any (hk.stay.num (hx.keep hb)) (Nat.le_trans hs (by omega)))
 have HY:=fun (w1 w':World) (hb:Below w.heap.size w w1) (hk:Held6 wB (w.heap.size+2) w1 w')=>hid (numCopied_any (hk.stay.num (hy.keep hb)) (Nat.le_trans ht (by omega)))
 clear hx hy hs ht
 go_enter Tryz.func56,Tryz.ntmps56
 go_wp2_with fail
 rw [←hwB]
 clear hwB
 refine (HC.out).mono ?_
 rintro e w0 ⟨rfl,b1⟩
 have HK1:=hid (HK0.out.call b1)
 have HX:=fun (w':World) (hk:Held6 wB (w.heap.size+2) w0 w')=>HX w0 w' (below_to HB0.out (by omega) HK1.out.1) hk
 have HY:=fun (w':World) (hk:Held6 wB (w.heap.size+2) w0 w')=>HY w0 w' (below_to HB0.out (by omega) HK1.out.1) hk
 have H0:=HK1.out.begin6
 have H0':=H0
 unfold Held6 at H0'
 go_wp2_with fail
 go_region_held3 (fun w'=>(∀ b o,b<w.heap.size+2→w'.cell? ⟨b,o,none⟩=wB.cell? ⟨b,o,none⟩)∧w'.cell? ⟨w.heap.size+2,0,none⟩=some (cur w' ⟨w.heap.size+2,0,none⟩)∧w'.cell? ⟨w.heap.size+2,1,none⟩=some (cur w' ⟨w.heap.size+2,1,none⟩)∧w'.cell? ⟨w.heap.size+2,2,none⟩=some (cur w' ⟨w.heap.size+2,2,none⟩)∧w'.cell? ⟨w.heap.size+2,3,none⟩=some (cur w' ⟨w.heap.size+2,3,none⟩)∧w'.cell? ⟨w.heap.size+2,4,none⟩=some (cur w' ⟨w.heap.size+2,4,none⟩)∧w'.cell? ⟨w.heap.size+2,5,none⟩=some (cur w' ⟨w.heap.size+2,5,none⟩)∧w'.frozen? ⟨w.heap.size+2,0,none⟩=false∧w'.frozen? ⟨w.heap.size+2,1,none⟩=false∧w'.frozen? ⟨w.heap.size+2,2,none⟩=false∧w'.frozen? ⟨w.heap.size+2,3,none⟩=false∧w'.frozen? ⟨w.heap.size+2,4,none⟩=false∧w'.frozen? ⟨w.heap.size+2,5,none⟩=false∧Kept 6 48 wB (w.heap.size+2) w'∧Stay w0 w')
   (first | with_reducible exact H0' | with_reducible exact hk1' | with_reducible exact hk2' | exact hk2.store)
   (first | (go_at_call 93;refine ((HY _ hk1).out).mono ?_;rintro e w2 ⟨v2,rfl,hv2,hbl2⟩;obtain ⟨C3,j3,C4,j4,rfl,-,-⟩:=id hv2.opened;have hk2:=hk1.call hbl2;have hk2':=hk2;unfold Held6 at hk2') | (go_at_call 93;refine ((HX _ H0).out).mono ?_;rintro e w1 ⟨v1,rfl,hv1,hbl1⟩;obtain ⟨C1,j1,C2,j2,rfl,-,-⟩:=id hv1.opened;have hk1:=H0.call hbl1;have hk1':=hk1;unfold Held6 at hk1'))
 rename_i hHl
 clear hHl
 have hv1':=hv1.keep hbl2
 have HD:=hk2.done (p:=x) (q:=y) (s1:=decide (x.num<0)) (A1:=C1) (n1:=len x.num.natAbs) (c1:=j1) (A2:=C2) (n2:=len (below x.den)) (c2:=j2) (s2:=decide (y.num<0)) (A3:=C3) (n3:=len y.num.natAbs) (c3:=j3) (A4:=C4) (n4:=len (below y.den)) (c4:=j4) (hv1') (hv2)
 obtain ⟨d1,d2,d3⟩:=HD
 obtain ⟨r0,r1,r2,r3,r4,r5⟩:=cells6 d3
 have HD:=hid (And.intro d1 d2)
 clear d1 d2 d3
 go_wp2_with fail
 refine bodyPost_ret (v:=.tuple #[.agg #[.bool (decide (x.num<0)),.slice (C1) (len x.num.natAbs) (j1),.slice (C2) (len (below x.den)) (j2),.bool (decide (y.num<0)),.slice (C3) (len y.num.natAbs) (j3),.slice (C4) (len (below y.den)) (j4)],.int .i64 0]) ?_ rfl ⟨_,rfl,HD.out.1,below_to HB0.out (by omega) HD.out.2⟩
 simp [results,Tryz.results56,go_sem,r0,r1,r2,r3,r4,r5]
end Go.Proofs.YtlcimajjnfbidaaGreatDoor
