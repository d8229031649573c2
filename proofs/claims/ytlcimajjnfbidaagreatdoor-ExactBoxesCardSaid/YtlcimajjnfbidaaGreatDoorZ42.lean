/-
  Contracts of the functions that the law calls, for every input (BoxM BoxO).
-/
import Derived.Test.YtlcimajjnfbidaaGreatDoorZ00
import Derived.Test.YtlcimajjnfbidaaGreatDoorZ41
import Derived.Test.YtlcimajjnfbidaaGreatDoorZ23
set_option linter.all false
set_option maxRecDepth 100000
set_option maxHeartbeats 40000000
namespace Go.Proofs.YtlcimajjnfbidaaGreatDoor
open Lib (hid)
open Go.RowKit
open Vx
theorem FB' {w:World} {v:Value} {a b l m:Rat} {n:Nat} (hv:Am' w v a b) (hn:n≤64) (ho:n%2=0) (hs:Aa' l≤1073741824) (ht:Aa' m≤1073741824)
   (habs:∀ (w':World) (v':Value),Am' w' v' a b→Calls Tryz.prog 25 #[v'] w' (AJ' w' l m)) :
   Calls Tryz.prog 31 #[v,.int .i64 (n:Nat)] w (AM' w (l^n) (m^n) 0):=by
 obtain ⟨A1,c1,A2,c2,A3,c3,A4,c4,rfl,ha,hb⟩:=hv.opened
 obtain ⟨wB,hwB⟩:=eX (((w.alloc (.cells #[.bool (decide (a.num<0)),.slice A1 (len a.num.natAbs) c1,.slice A2 (len (below a.den)) c2,.bool (decide (b.num<0)),.slice A3 (len b.num.natAbs) c3,.slice A4 (len (below b.den)) c4] 48)).alloc (.cells #[.int .i64 (n:Nat)] 3)).alloc (.cells #[.bool false,.slice none 0 0,.slice none 0 0,.bool false,.slice none 0 0,.slice none 0 0] 48))
 obtain ⟨b0,g0,g1,g2⟩:=Au' hwB
 obtain ⟨k0,k1,k2,k3,k4,k5⟩:=Ad' g0
 have k6:wB.cell? ⟨w.heap.size+1,0,none⟩=some (.int .i64 (n:Nat)):=cR _ _ _ _ _ _ g1
 have HK0:=hid (Ah.start (T:=48) rfl AP' g2)
 have HB0:=hid b0
 have hlt1:w.heap.size<w.heap.size+2:=by omega
 have hlt2:w.heap.size+1<w.heap.size+2:=by omega
 clear g1 g2 b0
 have hl1:Aa' l*n≤1099511627776:=nT (Nat.mul_le_mul hs hn) (by omega)
 have hl2:Aa' m*n≤1099511627776:=nT (Nat.mul_le_mul ht hn) (by omega)
 have hs1:Aa' l≤1099511627776:=nT hs (by omega)
 have ht1:Aa' m≤1099511627776:=nT ht (by omega)
 have HA:=hid (habs wB _ (Af.pair (ha.keep HB0.out) (hb.keep HB0.out)))
 have h1:decide (((n:Nat):Int)<0)=false:=dF_ (by omega)
 have h2:decide (((n:Nat):Int)>64)=false:=dF_ (by omega)
 have h3:(Int.tmod ((n:Nat):Int) 2==0)=true:=by
   have e:Int.tmod ((n:Nat):Int) 2=((n%2:Nat):Int):=by rw [Int.tmod_eq_emod_of_nonneg (by omega)];omega
   rw [e,ho];rfl
 have h4:(((n:Nat):Int)%2==0)=true:=by
   have e:((n:Nat):Int)%2=((n%2:Nat):Int):=by omega
   rw [e,ho];rfl
 have hn1:n≤1099511627776:=by omega
 obtain ⟨q,hq⟩:=eX (l^n:Rat)
 obtain ⟨r,hr⟩:=eX (m^n:Rat)
 rw [←hq,←hr]
 replace hq:=hid hq
 replace hr:=hid hr
 replace hn1:=hid hn1
 replace hl1:=hid hl1
 replace hl2:=hid hl2
 replace hs1:=hid hs1
 replace ht1:=hid ht1
 replace g0:=hid g0
 clear hs ht hv ha hb hn ho habs
 go_enter Tryz.func31,Tryz.ntmps31
 go_upto_region 1 with fail
 rw [←hwB]
 clear hwB
 go_wp2_with fail
 refine (HA.out).mono ?_
 rintro e w1 ⟨v1,rfl,hv1,b1⟩
 obtain ⟨D1,d1,D2,d2,D3,d3,D4,d4,rfl,hl,hm⟩:=hv1.opened
 have HK1:=HK0.out.call b1
 have KA0:Ah 6 48 wB w.heap.size w1:=(Ah.start rfl AP' g0.out).call b1
 have hn6:w1.cell? ⟨w.heap.size+1,0,none⟩=some (.int .i64 (n:Nat)):=(Aj HK1.1 _ _ (by omega)).trans k6
 have ka1:=KA0.set (i:=0) (AV' (decide (l.num<0)))
 have ka2:=ka1.set (i:=1) (Av' D1 (len l.num.natAbs) d1)
 have ka3:=ka2.set (i:=2) (Av' D2 (len (below l.den)) d2)
 have ka4:=ka3.set (i:=3) (AV' (decide (m.num<0)))
 have ka5:=ka4.set (i:=4) (Av' D3 (len m.num.natAbs) d3)
 have ka6:=ka5.set (i:=5) (Av' D4 (len (below m.den)) d4)
 have hl6:=((((((hl.put (i:=0) (u:=(.bool (decide (l.num<0)))) KA0).put (i:=1) (u:=(.slice D1 (len l.num.natAbs) d1)) ka1).put (i:=2) (u:=(.slice D2 (len (below l.den)) d2)) ka2).put (i:=3) (u:=(.bool (decide (m.num<0)))) ka3).put (i:=4) (u:=(.slice D3 (len m.num.natAbs) d3)) ka4).put (i:=5) (u:=(.slice D4 (len (below m.den)) d4)) ka5)
 have hm6:=((((((hm.put (i:=0) (u:=(.bool (decide (l.num<0)))) KA0).put (i:=1) (u:=(.slice D1 (len l.num.natAbs) d1)) ka1).put (i:=2) (u:=(.slice D2 (len (below l.den)) d2)) ka2).put (i:=3) (u:=(.bool (decide (m.num<0)))) ka3).put (i:=4) (u:=(.slice D3 (len m.num.natAbs) d3)) ka4).put (i:=5) (u:=(.slice D4 (len (below m.den)) d4)) ka5)
 obtain ⟨_,csA,hsA,_,hgA⟩:=id KA0
 have hrow:=C3' hsA hgA (.bool (decide (l.num<0))) (.slice D1 (len l.num.natAbs) d1) (.slice D2 (len (below l.den)) d2) (.bool (decide (m.num<0))) (.slice D3 (len m.num.natAbs) d3) (.slice D4 (len (below m.den)) d4)
 have y0:w1.cell? ⟨w.heap.size,0,none⟩=some (cur w1 ⟨w.heap.size,0,none⟩):=Be' hgA (by omega)
 have F0:w1.frozen? ⟨w.heap.size,0,none⟩=false:=fR w1 _ 0 _ _ hgA
 have y1:w1.cell? ⟨w.heap.size,1,none⟩=some (cur w1 ⟨w.heap.size,1,none⟩):=Be' hgA (by omega)
 have F1:w1.frozen? ⟨w.heap.size,1,none⟩=false:=fR w1 _ 1 _ _ hgA
 have y2:w1.cell? ⟨w.heap.size,2,none⟩=some (cur w1 ⟨w.heap.size,2,none⟩):=Be' hgA (by omega)
 have F2:w1.frozen? ⟨w.heap.size,2,none⟩=false:=fR w1 _ 2 _ _ hgA
 have y3:w1.cell? ⟨w.heap.size,3,none⟩=some (cur w1 ⟨w.heap.size,3,none⟩):=Be' hgA (by omega)
 have F3:w1.frozen? ⟨w.heap.size,3,none⟩=false:=fR w1 _ 3 _ _ hgA
 have y4:w1.cell? ⟨w.heap.size,4,none⟩=some (cur w1 ⟨w.heap.size,4,none⟩):=Be' hgA (by omega)
 have F4:w1.frozen? ⟨w.heap.size,4,none⟩=false:=fR w1 _ 4 _ _ hgA
 have y5:w1.cell? ⟨w.heap.size,5,none⟩=some (cur w1 ⟨w.heap.size,5,none⟩):=Be' hgA (by omega)
 have F5:w1.frozen? ⟨w.heap.size,5,none⟩=false:=fR w1 _ 5 _ _ hgA
 have hB1:=Ae HB0.out (by omega) HK1.1
 have hB2:Below w.heap.size w ((((((w1.setCell ⟨w.heap.size,0,none⟩ (.bool (decide (l.num<0)))).setCell ⟨w.heap.size,1,none⟩ (.slice D1 (len l.num.natAbs) d1)).setCell ⟨w.heap.size,2,none⟩ (.slice D2 (len (below l.den)) d2)).setCell ⟨w.heap.size,3,none⟩ (.bool (decide (m.num<0)))).setCell ⟨w.heap.size,4,none⟩ (.slice D3 (len m.num.natAbs) d3)).setCell ⟨w.heap.size,5,none⟩ (.slice D4 (len (below m.den)) d4)):=((((((hB1.setCell (p:=⟨w.heap.size,0,none⟩) (nL _) _).setCell (p:=⟨w.heap.size,1,none⟩) (nL _) _).setCell (p:=⟨w.heap.size,2,none⟩) (nL _) _).setCell (p:=⟨w.heap.size,3,none⟩) (nL _) _).setCell (p:=⟨w.heap.size,4,none⟩) (nL _) _).setCell (p:=⟨w.heap.size,5,none⟩) (nL _) _)
 obtain ⟨_,csG,hsG,hpG,hgG⟩:=id HK1
 have hgG2:((((((w1.setCell ⟨w.heap.size,0,none⟩ (.bool (decide (l.num<0)))).setCell ⟨w.heap.size,1,none⟩ (.slice D1 (len l.num.natAbs) d1)).setCell ⟨w.heap.size,2,none⟩ (.slice D2 (len (below l.den)) d2)).setCell ⟨w.heap.size,3,none⟩ (.bool (decide (m.num<0)))).setCell ⟨w.heap.size,4,none⟩ (.slice D3 (len m.num.natAbs) d3)).setCell ⟨w.heap.size,5,none⟩ (.slice D4 (len (below m.den)) d4)).heap[w.heap.size+2]?=some (.cells csG 48 (0,0)):=by
   rw [heap_setCell_other _ _ _ _ (by show w.heap.size+2≠w.heap.size;omega),heap_setCell_other _ _ _ _ (by show w.heap.size+2≠w.heap.size;omega),heap_setCell_other _ _ _ _ (by show w.heap.size+2≠w.heap.size;omega),heap_setCell_other _ _ _ _ (by show w.heap.size+2≠w.heap.size;omega),heap_setCell_other _ _ _ _ (by show w.heap.size+2≠w.heap.size;omega),heap_setCell_other _ _ _ _ (by show w.heap.size+2≠w.heap.size;omega)]
   exact hgG
 have hN2:((((((w1.setCell ⟨w.heap.size,0,none⟩ (.bool (decide (l.num<0)))).setCell ⟨w.heap.size,1,none⟩ (.slice D1 (len l.num.natAbs) d1)).setCell ⟨w.heap.size,2,none⟩ (.slice D2 (len (below l.den)) d2)).setCell ⟨w.heap.size,3,none⟩ (.bool (decide (m.num<0)))).setCell ⟨w.heap.size,4,none⟩ (.slice D3 (len m.num.natAbs) d3)).setCell ⟨w.heap.size,5,none⟩ (.slice D4 (len (below m.den)) d4)).cell? ⟨w.heap.size+1,0,none⟩=some (.int .i64 (n:Nat)):=by
   rw [World.cell?_setCell_other _ _ _ _ (by intro e;injection e with e1;omega),World.cell?_setCell_other _ _ _ _ (by intro e;injection e with e1;omega),World.cell?_setCell_other _ _ _ _ (by intro e;injection e with e1;omega),World.cell?_setCell_other _ _ _ _ (by intro e;injection e with e1;omega),World.cell?_setCell_other _ _ _ _ (by intro e;injection e with e1;omega),World.cell?_setCell_other _ _ _ _ (by intro e;injection e with e1;omega)]
   exact hn6
 replace hl6:=hid hl6
 replace hm6:=hid hm6
 replace hrow:=hid hrow
 replace hB2:=hid hB2
 replace hgG2:=hid hgG2
 replace hN2:=hid hN2
 clear ka1 ka2 ka3 ka4 ka5 ka6 hl hm hv1 hB1 hgG HK1 KA0 hgA hn6 HA k0 k1 k2 k3 k4 k5 k6 b1
 go_upto_region 5 with fail
 obtain ⟨w2,hw2⟩:=eX (((((((w1.setCell ⟨w.heap.size,0,none⟩ (.bool (decide (l.num<0)))).setCell ⟨w.heap.size,1,none⟩ (.slice D1 (len l.num.natAbs) d1)).setCell ⟨w.heap.size,2,none⟩ (.slice D2 (len (below l.den)) d2)).setCell ⟨w.heap.size,3,none⟩ (.bool (decide (m.num<0)))).setCell ⟨w.heap.size,4,none⟩ (.slice D3 (len m.num.natAbs) d3)).setCell ⟨w.heap.size,5,none⟩ (.slice D4 (len (below m.den)) d4)))
 rw [←hw2] at hl6 hm6 hrow hB2 hgG2 hN2 ⊢
 clear hw2 y0 F0 y1 F1 y2 F2 y3 F3 y4 F4 y5 F5
 have k6:=hN2.out
 obtain ⟨k0,k1,k2,k3,k4,k5⟩:=Ad' hrow.out
 have HK2:=hid (Ah.start hsG hpG hgG2.out)
 have HB0:=hB2
 have HX:=hid (EX' (bn:=w.heap.size+1) (Af.pair hl6.out hm6.out) hN2.out hn1.out hl1.out hs1.out hl2.out ht1.out)
 rw [←hq.out,←hr.out] at HX
 clear hrow hN2 hgG2
 go_wp2_with fail
 refine (HX.out).mono ?_
 rintro e w5 ⟨v5,rfl,hv5,b5⟩
 obtain ⟨C1,j1,C2,j2,C3,j3,C4,j4,rfl,hq1,hr1⟩:=hv5.opened
 have hk:=(HK2.out.call b5).held6 (Ag'.refl _)
 have hk':=hk
 unfold Af' at hk'
 clear b5 HX
 obtain ⟨-,c0,c1',c2',c3',c4',c5',f0,f1,f2,f3,f4,f5,-⟩:=hk'
 have HD:=hk.done (p:=q) (q:=r) (s1:=decide (q.num<0)) (A1:=C1) (n1:=len q.num.natAbs) (c1:=j1) (A2:=C2) (n2:=len (below q.den)) (c2:=j2) (s2:=decide (r.num<0)) (A3:=C3) (n3:=len r.num.natAbs) (c3:=j3) (A4:=C4) (n4:=len (below r.den)) (c4:=j4) (hq1) (hr1)
 obtain ⟨d1,d2,d3⟩:=HD
 obtain ⟨r0,r1,r2,r3,r4,r5⟩:=Ad' d3
 have HD:=hid (And.intro d1 d2)
 clear d1 d2 d3
 go_wp2_with fail
 refine bP (v:=.tuple #[.agg #[.bool (decide (q.num<0)),.slice (C1) (len q.num.natAbs) (j1),.slice (C2) (len (below q.den)) (j2),.bool (decide (r.num<0)),.slice (C3) (len r.num.natAbs) (j3),.slice (C4) (len (below r.den)) (j4)],.int .i64 0]) ?_ rfl ⟨_,rfl,HD.out.1,Ae HB0.out (by omega) HD.out.2⟩
 simp [results,Tryz.results31,go_sem,r0,r1,r2,r3,r4,r5]
def absLo (a b:Rat):Rat:=if a≤0∧0≤b then leastOf 0 [a.abs,b.abs] else leastOf a.abs [b.abs]
def absHi (a b:Rat):Rat:=if a≤0∧0≤b then greatestOf 0 [a.abs,b.abs] else greatestOf a.abs [b.abs]
theorem DV' {w:World} {v:Value} {a b:Rat} (hv:Am' w v a b) (sa:Aa' a≤34359738368) (sb:Aa' b≤34359738368) :
   Calls Tryz.prog 25 #[v] w (AJ' w (absLo a b) (absHi a b)):=by
 unfold absLo absHi
 rcases Decidable.em (a≤0∧0≤b) with h | h
 · rw [if_pos h,if_pos h];exact FA hv sa sb h
 · rw [if_neg h,if_neg h];exact Gm hv sa sb h
theorem Br:Aa' 0≤3:=by decide +kernel
theorem Di {x:Rat} {l:List Rat} {N:Nat} (h:Aa' x≤N) (h2:∀ y∈l,Aa' y≤N):Aa' (leastOf x l)≤N:=by
 rcases Dw l x with e | e
 · rw [e];exact h
 · exact h2 _ e
theorem CA' {x:Rat} {l:List Rat} {N:Nat} (h:Aa' x≤N) (h2:∀ y∈l,Aa' y≤N):Aa' (greatestOf x l)≤N:=by
 rcases CL' l x with e | e
 · rw [e];exact h
 · exact h2 _ e
theorem Di' {a b:Rat} {N:Nat} (h3:3≤N) (ha:Aa' a≤N) (hb:Aa' b≤N):Aa' (absLo a b)≤N:=by
 have h1:Aa' a.abs≤N:=by rw [Bj'];exact ha
 have h2:Aa' b.abs≤N:=by rw [Bj'];exact hb
 unfold absLo
 split
 · exact Di (nT Br h3) (by intro y hy;simp only [List.mem_cons,List.not_mem_nil,or_false] at hy;rcases hy with rfl | rfl <;> assumption)
 · exact Di h1 (by intro y hy;simp only [List.mem_cons,List.not_mem_nil,or_false] at hy;rw [hy];exact h2)
theorem Dj {a b:Rat} {N:Nat} (h3:3≤N) (ha:Aa' a≤N) (hb:Aa' b≤N):Aa' (absHi a b)≤N:=by
 have h1:Aa' a.abs≤N:=by rw [Bj'];exact ha
 have h2:Aa' b.abs≤N:=by rw [Bj'];exact hb
 unfold absHi
 split
 · exact CA' (nT Br h3) (by intro y hy;simp only [List.mem_cons,List.not_mem_nil,or_false] at hy;rcases hy with rfl | rfl <;> assumption)
 · exact CA' h1 (by intro y hy;simp only [List.mem_cons,List.not_mem_nil,or_false] at hy;rw [hy];exact h2)
theorem Gm' {w:World} {v:Value} {a b:Rat} {n:Nat} (hv:Am' w v a b) (hn:n≤64) (hs:Aa' a≤1073741824) (ht:Aa' b≤1073741824) :
   Calls Tryz.prog 31 #[v,.int .i64 (n:Nat)] w (AM' w ((if n%2=0 then absLo a b else a)^n) ((if n%2=0 then absHi a b else b)^n) 0):=by
 rcases Nat.mod_two_eq_zero_or_one n with h | h
 · rw [if_pos h,if_pos h]
   exact FB' hv hn h (Di' (by omega) hs ht) (Dj (by omega) hs ht) (fun w' v' hv'=>DV' hv' (nT hs (by omega)) (nT ht (by omega)))
 · rw [if_neg (by omega),if_neg (by omega)]
   exact DT hv hn h hs ht
end Go.Proofs.YtlcimajjnfbidaaGreatDoor
