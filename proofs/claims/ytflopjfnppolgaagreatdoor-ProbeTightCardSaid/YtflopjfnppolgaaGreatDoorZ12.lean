/-
  Contracts of the functions that the law calls, for every input (NumH NumI).
-/
import Derived.Test.YtflopjfnppolgaaGreatDoorZ00
import Derived.Test.YtflopjfnppolgaaGreatDoorZ11
set_option linter.all false
set_option maxRecDepth 100000
set_option maxHeartbeats 40000000
namespace Go.Proofs.YtflopjfnppolgaaGreatDoor
open Lib (hid)
open Go.RowKit
open Vx
def Ah' (wB:World) (G:Nat) (wS w:World):Prop:=(∀ b o,b<G→w.cell? ⟨b,o,none⟩=wB.cell? ⟨b,o,none⟩)∧Below G wB w∧An' wS w
theorem Ah'.call {wB wS w w':World} {G:Nat} (h:Ah' wB G wS w) (hG:G≤wB.heap.size) (hb:Below w.heap.size w w'):Ah' wB G wS w':=by
 have h1:=h.2.1.trans (hb.mono (nT hG h.2.1.size))
 exact ⟨Au h1,h1,h.2.2.call hb⟩
theorem Ah'.start (w:World) (G:Nat):Ah' w G w w.drew:=by
 have hb:∀ B,Below B w w.drew:=fun B=>⟨rfl,rfl,rfl,nL _,fun _ _=>rfl⟩
 exact ⟨Au (hb G),hb G,(An'.refl w).call (hb _)⟩
theorem Ah'.begin {wB wS w:World} {G:Nat} (h:Below G wB w) (hS:w=wS):Ah' wB G wS w.drew:=by
 subst hS
 have hb:∀ B,Below B w w.drew:=fun B=>⟨rfl,rfl,rfl,nL _,fun _ _=>rfl⟩
 have h1:=h.trans (hb G)
 exact ⟨Au h1,h1,(An'.refl w).call (hb _)⟩
theorem Hu' {a b d:Nat} (hd:0<d):Ar (a*d) (b*d)=Ar a b:=by
 unfold Ar
 simp only [Nat.mul_lt_mul_right hd,Nat.mul_right_cancel_iff hd]
theorem Cz' {a b:Nat}:(Ar a b==0)=decide (a=b):=by
 unfold Ar
 split
 · rename_i h;rw [dF_ (by omega)];rfl
 · split
   · rename_i h;rw [dT_ h];rfl
   · rename_i h;rw [dF_ h];rfl
theorem Ew {n:Nat} (h:0<n):2^(bitlen n - 1)≤n∧0<bitlen n:=by
 have e:bitlen n=n.log2+1:=by unfold bitlen;rw [if_neg (by omega)]
 rw [e]
 exact ⟨Nat.log2_self_le (by omega),by omega⟩
theorem Ew' {a d b e:Nat} (hb:0<b) (he:0<e) (h:bitlen a+bitlen d+1<bitlen b+bitlen e):a*d<b*e:=by
 have h1:=Dc a;have h2:=Dc d
 obtain ⟨h3,h5⟩:=Ew hb;obtain ⟨h4,h6⟩:=Ew he
 have h7:a*d≤2^bitlen a*2^bitlen d:=Nat.mul_le_mul (Nat.le_of_lt h1) (Nat.le_of_lt h2)
 have h8:2^(bitlen b - 1)*2^(bitlen e - 1)≤b*e:=Nat.mul_le_mul h3 h4
 rw [←Nat.pow_add] at h7 h8
 have h9:(2:Nat)^(bitlen a+bitlen d)<2^(bitlen b - 1+(bitlen e - 1))∨bitlen a+bitlen d=bitlen b - 1+(bitlen e - 1):=by
   rcases Nat.lt_or_ge (bitlen a+bitlen d) (bitlen b - 1+(bitlen e - 1)) with h | h
   · exact .inl (Nat.pow_lt_pow_right (by omega) h)
   · exact .inr (by omega)
 rcases h9 with h9 | h9
 · omega
 · rw [h9] at h7
   have:a*d<2^bitlen a*2^bitlen d:=by
     rcases Nat.eq_zero_or_pos d with h | h
     · subst h;rw [Nat.mul_zero];exact Nat.mul_pos (Nat.two_pow_pos _) (Nat.two_pow_pos _)
     · exact Nat.mul_lt_mul_of_lt_of_le h1 (Nat.le_of_lt h2) (Nat.two_pow_pos _)
   rw [←Nat.pow_add,h9] at this
   omega
theorem AM {n:Nat} (h:len n≤34359738368):bitlen n≤2199023255552:=by
 have h1:=Ao n
 rw [AT',←Nat.pow_mul] at h1
 unfold bitlen
 split
 · omega
 · rename_i h0
   have:=(Nat.log2_lt h0).2 h1
   omega
theorem Fu {w:World} {vx vy:Value} {x y:Rat} (hx:Ac' w vx x) (hy:Ac' w vy y) (hs:Aa' x≤34359738368) (ht:Aa' y≤34359738368) (hx0:x≠0) (hy0:y≠0) (h:x.den=y.den) :
   Calls Tryz.prog 55 #[vx,vy] w (AW' w (Ar (x.num.natAbs*y.den) (y.num.natAbs*x.den))):=by
 obtain ⟨A1,c1,A2,c2,rfl,hx1,hx2⟩:=hx.opened
 obtain ⟨A3,c3,A4,c4,rfl,hy1,hy2⟩:=hy.opened
 obtain ⟨wB,hwB⟩:=eX ((w.alloc (.cells #[.bool (decide (x.num<0)),.slice A1 (len x.num.natAbs) c1,.slice A2 (len (below x.den)) c2] 35)).alloc (.cells #[.bool (decide (y.num<0)),.slice A3 (len y.num.natAbs) c3,.slice A4 (len (below y.den)) c4] 35))
 obtain ⟨b0,gA,gA2⟩:=AL' hwB
 obtain ⟨k0,k1,k2⟩:=Ad' gA
 obtain ⟨k3,k4,k5⟩:=Ad' gA2
 have hsz:wB.heap.size=w.heap.size+2:=by rw [hwB];simp
 have HSZ:=hid hsz
 have HB0:=hid b0
 have hlt1:w.heap.size<w.heap.size+2:=by omega
 have hlt2:w.heap.size+1<w.heap.size+2:=by omega
 clear gA gA2 b0 hsz
 have HX:=fun (w':World) (hk:Ah' wB (w.heap.size+2) wB w')=>hid (AD (hx.keep (HB0.out.trans (hk.2.1.mono (by omega)))))
 have HY:=fun (w':World) (hk:Ah' wB (w.heap.size+2) wB w')=>hid (AD (hy.keep (HB0.out.trans (hk.2.1.mono (by omega)))))
 have H0:=Ah'.start wB (w.heap.size+2)
 have l1:=Ai x;have l2:=Ai' x;have l3:=Ai y;have l4:=Ai' y
 have HL:=hid (show len x.num.natAbs≤34359738368∧len x.den≤34359738368∧len y.num.natAbs≤34359738368∧len y.den≤34359738368 by omega)
 have n1:0<x.num.natAbs:=by have:x.num≠0:=fun e=>hx0 (Rat.num_eq_zero.1 e);omega
 have n2:0<y.num.natAbs:=by have:y.num≠0:=fun e=>hy0 (Rat.num_eq_zero.1 e);omega
 have n3:0<x.den:=x.den_pos
 have n4:0<y.den:=y.den_pos
 have HH:=hid h
 have htest:Ar x.den y.den=0:=by rw [h];unfold Ar;simp
 clear h
 clear hs ht l1 l2 l3 l4 hx0 hy0
 go_enter Tryz.func55,Tryz.ntmps55
 go_wp2_with fail
 rw [←hwB]
 clear hwB
 go_region_held3 (fun w'=>(∀ b o,b<w.heap.size+2→w'.cell? ⟨b,o,none⟩=wB.cell? ⟨b,o,none⟩)∧Below (w.heap.size+2) wB w'∧An' wB w')
   (first | exact H0 | exact hk2 | exact hk1)
   (first | (go_at_call_of 61 (Value.agg #[.bool (decide (x.num<0)),.slice A1 (len x.num.natAbs) c1,.slice A2 (len (below x.den)) c2]);refine ((HX _ ?_).out).mono ?_;assumption;rintro e w1 ⟨vb,rfl,hvb,hbl1⟩;have hk1:=Ah'.call (by assumption) (Nat.le_of_eq HSZ.out.symm) hbl1) | (go_at_call_of 61 (Value.agg #[.bool (decide (y.num<0)),.slice A3 (len y.num.natAbs) c3,.slice A4 (len (below y.den)) c4]);refine ((HY _ ?_).out).mono ?_;assumption;rintro e w2 ⟨vd,rfl,hvd,hbl2⟩;have hk2:=Ah'.call (by assumption) (Nat.le_of_eq HSZ.out.symm) hbl2))
 rename_i hHl
 clear hHl
 have hb2:=hvb.keep hbl2
 have HB2:=hid (HB0.out.trans (hk2.2.1.mono (by omega)))
 have HBB:=hid hk2.2.1
 have hc2:=hk2.1
 have hx2':=hx1.keep HB2.out
 have hy2':=hy1.keep HB2.out
 have HC1:=hid (Bs' hb2 hvd)
 try rw [htest] at HC1
 clear HX HY hbl1 hbl2 hvb hk1 hk2 H0
 have HC2:=fun k=>hid (Bs' (hx2'.drewN k) (hy2'.drewN k))
 have HM:Hid (Ar (x.num.natAbs*y.den) (y.num.natAbs*x.den)=Ar x.num.natAbs y.num.natAbs):=by show _=_;rw [HH.out,Hu' n4]
 go_wp2_with fail
 refine (HC1.out).mono ?_
 rintro e w3 ⟨rfl,k,rfl⟩
 go_wp2_with fail
 refine ((HC2 _).out).mono ?_
 rintro e w4 ⟨rfl,k',rfl⟩
 go_wp2_with fail
 go_ret
 exact Bt HM.out.symm (Ae' HB2.out (Aw _ _))
theorem Fu' {w:World} {vx vy:Value} {x y:Rat} (hx:Ac' w vx x) (hy:Ac' w vy y) (hs:Aa' x≤34359738368) (ht:Aa' y≤34359738368) (hx0:x≠0) (hy0:y≠0) (h:x.den≠y.den) (h2:((bitlen x.num.natAbs:Nat):Int)+(bitlen y.den:Nat) - (bitlen y.num.natAbs:Nat) - (bitlen x.den:Nat) < -1) :
   Calls Tryz.prog 55 #[vx,vy] w (AW' w (Ar (x.num.natAbs*y.den) (y.num.natAbs*x.den))):=by
 obtain ⟨A1,c1,A2,c2,rfl,hx1,hx2⟩:=hx.opened
 obtain ⟨A3,c3,A4,c4,rfl,hy1,hy2⟩:=hy.opened
 obtain ⟨wB,hwB⟩:=eX ((w.alloc (.cells #[.bool (decide (x.num<0)),.slice A1 (len x.num.natAbs) c1,.slice A2 (len (below x.den)) c2] 35)).alloc (.cells #[.bool (decide (y.num<0)),.slice A3 (len y.num.natAbs) c3,.slice A4 (len (below y.den)) c4] 35))
 obtain ⟨b0,gA,gA2⟩:=AL' hwB
 obtain ⟨k0,k1,k2⟩:=Ad' gA
 obtain ⟨k3,k4,k5⟩:=Ad' gA2
 have hsz:wB.heap.size=w.heap.size+2:=by rw [hwB];simp
 have HSZ:=hid hsz
 have HB0:=hid b0
 have hlt1:w.heap.size<w.heap.size+2:=by omega
 have hlt2:w.heap.size+1<w.heap.size+2:=by omega
 clear gA gA2 b0 hsz
 have HX:=fun (w':World) (hk:Ah' wB (w.heap.size+2) wB w')=>hid (AD (hx.keep (HB0.out.trans (hk.2.1.mono (by omega)))))
 have HY:=fun (w':World) (hk:Ah' wB (w.heap.size+2) wB w')=>hid (AD (hy.keep (HB0.out.trans (hk.2.1.mono (by omega)))))
 have H0:=Ah'.start wB (w.heap.size+2)
 have l1:=Ai x;have l2:=Ai' x;have l3:=Ai y;have l4:=Ai' y
 have HL:=hid (show len x.num.natAbs≤34359738368∧len x.den≤34359738368∧len y.num.natAbs≤34359738368∧len y.den≤34359738368 by omega)
 have n1:0<x.num.natAbs:=by have:x.num≠0:=fun e=>hx0 (Rat.num_eq_zero.1 e);omega
 have n2:0<y.num.natAbs:=by have:y.num≠0:=fun e=>hy0 (Rat.num_eq_zero.1 e);omega
 have n3:0<x.den:=x.den_pos
 have n4:0<y.den:=y.den_pos
 have htest:(Ar x.den y.den==0)=false:=by rw [Cz'];exact dF_ h
 clear h
 obtain ⟨p,hp⟩:=eX (bitlen x.num.natAbs)
 obtain ⟨q,hq⟩:=eX (bitlen y.den)
 obtain ⟨r,hr⟩:=eX (bitlen y.num.natAbs)
 obtain ⟨t,ht'⟩:=eX (bitlen x.den)
 have bp:p≤2199023255552:=by rw [hp];exact AM (by omega)
 have bq:q≤2199023255552:=by rw [hq];exact AM (by omega)
 have br:r≤2199023255552:=by rw [hr];exact AM (by omega)
 have bt:t≤2199023255552:=by rw [ht'];exact AM (by omega)
 have HP0:=hid hp;have HQ0:=hid hq;have HR0:=hid hr;have HT0:=hid ht'
 have hM:Ar (x.num.natAbs*y.den) (y.num.natAbs*x.den) = -1:=by
   have:x.num.natAbs*y.den<y.num.natAbs*x.den:=Ew' n2 n3 (by rw [←hp,←hq,←hr,←ht'] at h2 ⊢;omega)
   exact BD' this
 rw [←hp,←hq,←hr,←ht'] at h2
 have HM:=hid hM
 clear hp hq hr ht' hM
 clear hs ht l1 l2 l3 l4 hx0 hy0
 go_enter Tryz.func55,Tryz.ntmps55
 go_wp2_with fail
 rw [←hwB]
 clear hwB
 go_region_held3 (fun w'=>(∀ b o,b<w.heap.size+2→w'.cell? ⟨b,o,none⟩=wB.cell? ⟨b,o,none⟩)∧Below (w.heap.size+2) wB w'∧An' wB w')
   (first | exact H0 | exact hk2 | exact hk1)
   (first | (go_at_call_of 61 (Value.agg #[.bool (decide (x.num<0)),.slice A1 (len x.num.natAbs) c1,.slice A2 (len (below x.den)) c2]);refine ((HX _ ?_).out).mono ?_;assumption;rintro e w1 ⟨vb,rfl,hvb,hbl1⟩;have hk1:=Ah'.call (by assumption) (Nat.le_of_eq HSZ.out.symm) hbl1) | (go_at_call_of 61 (Value.agg #[.bool (decide (y.num<0)),.slice A3 (len y.num.natAbs) c3,.slice A4 (len (below y.den)) c4]);refine ((HY _ ?_).out).mono ?_;assumption;rintro e w2 ⟨vd,rfl,hvd,hbl2⟩;have hk2:=Ah'.call (by assumption) (Nat.le_of_eq HSZ.out.symm) hbl2))
 rename_i hHl
 clear hHl
 have hb2:=hvb.keep hbl2
 have HB2:=hid (HB0.out.trans (hk2.2.1.mono (by omega)))
 have HBB:=hid hk2.2.1
 have hc2:=hk2.1
 have hx2':=hx1.keep HB2.out
 have hy2':=hy1.keep HB2.out
 have HC1:=hid (Bs' hb2 hvd)
 try rw [htest] at HC1
 clear HX HY hbl1 hbl2 hvb hk1 hk2 H0
 go_wp2_with fail
 refine (HC1.out).mono ?_
 rintro e w3' ⟨rfl,k,rfl⟩
 have hb3:=hb2.drewN k
 have hd3:=hvd.drewN k
 have hx3:=hx2'.drewN k
 have hy3:=hy2'.drewN k
 have HB3:=hid (Ae' HB2.out (Aw w2 k))
 have HBB3:=hid (HBB.out.trans (show Below (w.heap.size+2) w2 (w2.drewN k) from ⟨rfl,rfl,rfl,nL _,fun _ _=>rfl⟩))
 clear hb2 hvd hx2' hy2' HB2 HBB hc2 HC1
 generalize w2.drewN k=w3 at hb3 hd3 hx3 hy3 HB3 HBB3 ⊢
 have hc3:=Au HBB3.out
 have H3:=Ah'.begin (wS:=w3) HBB3.out rfl
 have HP:=fun (w':World) (hk:Ah' wB (w.heap.size+2) w3 w')=>hid (AH (hk.2.2 _ _ hx3) (nT HL.out.1 (by decide)))
 have HQ:=fun (w':World) (hk:Ah' wB (w.heap.size+2) w3 w')=>hid (AH (hk.2.2 _ _ hd3) (nT HL.out.2.2.2 (by decide)))
 have HR:=fun (w':World) (hk:Ah' wB (w.heap.size+2) w3 w')=>hid (AH (hk.2.2 _ _ hy3) (nT HL.out.2.2.1 (by decide)))
 have HT:=fun (w':World) (hk:Ah' wB (w.heap.size+2) w3 w')=>hid (AH (hk.2.2 _ _ hb3) (nT HL.out.2.1 (by decide)))
 rw [←HP0.out] at HP
 rw [←HQ0.out] at HQ
 rw [←HR0.out] at HR
 rw [←HT0.out] at HT
 have e1:IntKind.i64.wrap (((p:Nat):Int)+((q:Nat):Int))=((p:Nat):Int)+((q:Nat):Int):=by rw [IntKind.wrap_i64];omega
 have e2:IntKind.i64.wrap (((p:Nat):Int)+((q:Nat):Int) - ((r:Nat):Int))=((p:Nat):Int)+((q:Nat):Int) - ((r:Nat):Int):=by rw [IntKind.wrap_i64];omega
 have e3:IntKind.i64.wrap (((p:Nat):Int)+((q:Nat):Int) - ((r:Nat):Int) - ((t:Nat):Int))=((p:Nat):Int)+((q:Nat):Int) - ((r:Nat):Int) - ((t:Nat):Int):=by rw [IntKind.wrap_i64];omega
 go_wp2_with fail
 go_region_held3 (fun w'=>(∀ b o,b<w.heap.size+2→w'.cell? ⟨b,o,none⟩=wB.cell? ⟨b,o,none⟩)∧Below (w.heap.size+2) wB w'∧An' w3 w')
   (first | exact H3 | assumption)
   (first | (go_at_call_of 93 (Value.slice A1 (len x.num.natAbs) c1);refine ((HP _ ?_).out).mono ?_;assumption;rintro e w4 ⟨rfl,rfl⟩) | (go_at_call_of 93 vd;refine ((HQ _ ?_).out).mono ?_;assumption;rintro e w4 ⟨rfl,rfl⟩) | (go_at_call_of 93 (Value.slice A3 (len y.num.natAbs) c3);refine ((HR _ ?_).out).mono ?_;assumption;rintro e w4 ⟨rfl,rfl⟩) | (go_at_call_of 93 vb;refine ((HT _ ?_).out).mono ?_;assumption;rintro e w4 ⟨rfl,rfl⟩))
 rename_i hHl
 generalize w3.drew=w4 at hHl ⊢
 obtain ⟨hc4,hb4,hs4⟩:=hHl
 have hx4:=hs4 _ _ hx3
 have hy4:=hs4 _ _ hy3
 have hvb4:=hs4 _ _ hb3
 have hvd4:=hs4 _ _ hd3
 have HB4:=hid (HB0.out.trans (hb4.mono (by omega)))
 have HBB4:=hid hb4
 clear hc3 hs4 hb4 HP HQ HR HT H3 hx3 hy3 hb3 hd3 HB3 HBB3
 obtain ⟨D,hD⟩:=eX (((p:Nat):Int)+((q:Nat):Int) - ((r:Nat):Int) - ((t:Nat):Int):Int)
 rw [←hD]
 have hD1:D < -1:=by omega
 have HC9:=hid (BT (w:=w4) D 0)
 have hci:A0' D 0 = -1:=by unfold A0';first | rw [if_pos (by omega)] | rw [if_neg (by omega),if_neg (by omega)]
 rw [hci] at HC9
 clear hci hD e1 e2 e3 h2
 go_wp2_with fail
 refine (HC9.out).mono ?_
 rintro e w5 ⟨rfl,rfl⟩
 go_wp2_with fail
 go_ret
 exact Bt HM.out.symm HB4.out
theorem Fv {w:World} {vx vy:Value} {x y:Rat} (hx:Ac' w vx x) (hy:Ac' w vy y) (hs:Aa' x≤34359738368) (ht:Aa' y≤34359738368) (hx0:x≠0) (hy0:y≠0) (h:x.den≠y.den) (h2:1<((bitlen x.num.natAbs:Nat):Int)+(bitlen y.den:Nat) - (bitlen y.num.natAbs:Nat) - (bitlen x.den:Nat)) :
   Calls Tryz.prog 55 #[vx,vy] w (AW' w (Ar (x.num.natAbs*y.den) (y.num.natAbs*x.den))):=by
 obtain ⟨A1,c1,A2,c2,rfl,hx1,hx2⟩:=hx.opened
 obtain ⟨A3,c3,A4,c4,rfl,hy1,hy2⟩:=hy.opened
 obtain ⟨wB,hwB⟩:=eX ((w.alloc (.cells #[.bool (decide (x.num<0)),.slice A1 (len x.num.natAbs) c1,.slice A2 (len (below x.den)) c2] 35)).alloc (.cells #[.bool (decide (y.num<0)),.slice A3 (len y.num.natAbs) c3,.slice A4 (len (below y.den)) c4] 35))
 obtain ⟨b0,gA,gA2⟩:=AL' hwB
 obtain ⟨k0,k1,k2⟩:=Ad' gA
 obtain ⟨k3,k4,k5⟩:=Ad' gA2
 have hsz:wB.heap.size=w.heap.size+2:=by rw [hwB];simp
 have HSZ:=hid hsz
 have HB0:=hid b0
 have hlt1:w.heap.size<w.heap.size+2:=by omega
 have hlt2:w.heap.size+1<w.heap.size+2:=by omega
 clear gA gA2 b0 hsz
 have HX:=fun (w':World) (hk:Ah' wB (w.heap.size+2) wB w')=>hid (AD (hx.keep (HB0.out.trans (hk.2.1.mono (by omega)))))
 have HY:=fun (w':World) (hk:Ah' wB (w.heap.size+2) wB w')=>hid (AD (hy.keep (HB0.out.trans (hk.2.1.mono (by omega)))))
 have H0:=Ah'.start wB (w.heap.size+2)
 have l1:=Ai x;have l2:=Ai' x;have l3:=Ai y;have l4:=Ai' y
 have HL:=hid (show len x.num.natAbs≤34359738368∧len x.den≤34359738368∧len y.num.natAbs≤34359738368∧len y.den≤34359738368 by omega)
 have n1:0<x.num.natAbs:=by have:x.num≠0:=fun e=>hx0 (Rat.num_eq_zero.1 e);omega
 have n2:0<y.num.natAbs:=by have:y.num≠0:=fun e=>hy0 (Rat.num_eq_zero.1 e);omega
 have n3:0<x.den:=x.den_pos
 have n4:0<y.den:=y.den_pos
 have htest:(Ar x.den y.den==0)=false:=by rw [Cz'];exact dF_ h
 clear h
 obtain ⟨p,hp⟩:=eX (bitlen x.num.natAbs)
 obtain ⟨q,hq⟩:=eX (bitlen y.den)
 obtain ⟨r,hr⟩:=eX (bitlen y.num.natAbs)
 obtain ⟨t,ht'⟩:=eX (bitlen x.den)
 have bp:p≤2199023255552:=by rw [hp];exact AM (by omega)
 have bq:q≤2199023255552:=by rw [hq];exact AM (by omega)
 have br:r≤2199023255552:=by rw [hr];exact AM (by omega)
 have bt:t≤2199023255552:=by rw [ht'];exact AM (by omega)
 have HP0:=hid hp;have HQ0:=hid hq;have HR0:=hid hr;have HT0:=hid ht'
 have hM:Ar (x.num.natAbs*y.den) (y.num.natAbs*x.den)=1:=by
   have:y.num.natAbs*x.den<x.num.natAbs*y.den:=Ew' n1 n4 (by rw [←hp,←hq,←hr,←ht'] at h2 ⊢;omega)
   unfold Ar
   rw [if_neg (by omega),if_neg (by omega)]
 rw [←hp,←hq,←hr,←ht'] at h2
 have HM:=hid hM
 clear hp hq hr ht' hM
 clear hs ht l1 l2 l3 l4 hx0 hy0
 go_enter Tryz.func55,Tryz.ntmps55
 go_wp2_with fail
 rw [←hwB]
 clear hwB
 go_region_held3 (fun w'=>(∀ b o,b<w.heap.size+2→w'.cell? ⟨b,o,none⟩=wB.cell? ⟨b,o,none⟩)∧Below (w.heap.size+2) wB w'∧An' wB w')
   (first | exact H0 | exact hk2 | exact hk1)
   (first | (go_at_call_of 61 (Value.agg #[.bool (decide (x.num<0)),.slice A1 (len x.num.natAbs) c1,.slice A2 (len (below x.den)) c2]);refine ((HX _ ?_).out).mono ?_;assumption;rintro e w1 ⟨vb,rfl,hvb,hbl1⟩;have hk1:=Ah'.call (by assumption) (Nat.le_of_eq HSZ.out.symm) hbl1) | (go_at_call_of 61 (Value.agg #[.bool (decide (y.num<0)),.slice A3 (len y.num.natAbs) c3,.slice A4 (len (below y.den)) c4]);refine ((HY _ ?_).out).mono ?_;assumption;rintro e w2 ⟨vd,rfl,hvd,hbl2⟩;have hk2:=Ah'.call (by assumption) (Nat.le_of_eq HSZ.out.symm) hbl2))
 rename_i hHl
 clear hHl
 have hb2:=hvb.keep hbl2
 have HB2:=hid (HB0.out.trans (hk2.2.1.mono (by omega)))
 have HBB:=hid hk2.2.1
 have hc2:=hk2.1
 have hx2':=hx1.keep HB2.out
 have hy2':=hy1.keep HB2.out
 have HC1:=hid (Bs' hb2 hvd)
 try rw [htest] at HC1
 clear HX HY hbl1 hbl2 hvb hk1 hk2 H0
 go_wp2_with fail
 refine (HC1.out).mono ?_
 rintro e w3' ⟨rfl,k,rfl⟩
 have hb3:=hb2.drewN k
 have hd3:=hvd.drewN k
 have hx3:=hx2'.drewN k
 have hy3:=hy2'.drewN k
 have HB3:=hid (Ae' HB2.out (Aw w2 k))
 have HBB3:=hid (HBB.out.trans (show Below (w.heap.size+2) w2 (w2.drewN k) from ⟨rfl,rfl,rfl,nL _,fun _ _=>rfl⟩))
 clear hb2 hvd hx2' hy2' HB2 HBB hc2 HC1
 generalize w2.drewN k=w3 at hb3 hd3 hx3 hy3 HB3 HBB3 ⊢
 have hc3:=Au HBB3.out
 have H3:=Ah'.begin (wS:=w3) HBB3.out rfl
 have HP:=fun (w':World) (hk:Ah' wB (w.heap.size+2) w3 w')=>hid (AH (hk.2.2 _ _ hx3) (nT HL.out.1 (by decide)))
 have HQ:=fun (w':World) (hk:Ah' wB (w.heap.size+2) w3 w')=>hid (AH (hk.2.2 _ _ hd3) (nT HL.out.2.2.2 (by decide)))
 have HR:=fun (w':World) (hk:Ah' wB (w.heap.size+2) w3 w')=>hid (AH (hk.2.2 _ _ hy3) (nT HL.out.2.2.1 (by decide)))
 have HT:=fun (w':World) (hk:Ah' wB (w.heap.size+2) w3 w')=>hid (AH (hk.2.2 _ _ hb3) (nT HL.out.2.1 (by decide)))
 rw [←HP0.out] at HP
 rw [←HQ0.out] at HQ
 rw [←HR0.out] at HR
 rw [←HT0.out] at HT
 have e1:IntKind.i64.wrap (((p:Nat):Int)+((q:Nat):Int))=((p:Nat):Int)+((q:Nat):Int):=by rw [IntKind.wrap_i64];omega
 have e2:IntKind.i64.wrap (((p:Nat):Int)+((q:Nat):Int) - ((r:Nat):Int))=((p:Nat):Int)+((q:Nat):Int) - ((r:Nat):Int):=by rw [IntKind.wrap_i64];omega
 have e3:IntKind.i64.wrap (((p:Nat):Int)+((q:Nat):Int) - ((r:Nat):Int) - ((t:Nat):Int))=((p:Nat):Int)+((q:Nat):Int) - ((r:Nat):Int) - ((t:Nat):Int):=by rw [IntKind.wrap_i64];omega
 go_wp2_with fail
 go_region_held3 (fun w'=>(∀ b o,b<w.heap.size+2→w'.cell? ⟨b,o,none⟩=wB.cell? ⟨b,o,none⟩)∧Below (w.heap.size+2) wB w'∧An' w3 w')
   (first | exact H3 | assumption)
   (first | (go_at_call_of 93 (Value.slice A1 (len x.num.natAbs) c1);refine ((HP _ ?_).out).mono ?_;assumption;rintro e w4 ⟨rfl,rfl⟩) | (go_at_call_of 93 vd;refine ((HQ _ ?_).out).mono ?_;assumption;rintro e w4 ⟨rfl,rfl⟩) | (go_at_call_of 93 (Value.slice A3 (len y.num.natAbs) c3);refine ((HR _ ?_).out).mono ?_;assumption;rintro e w4 ⟨rfl,rfl⟩) | (go_at_call_of 93 vb;refine ((HT _ ?_).out).mono ?_;assumption;rintro e w4 ⟨rfl,rfl⟩))
 rename_i hHl
 generalize w3.drew=w4 at hHl ⊢
 obtain ⟨hc4,hb4,hs4⟩:=hHl
 have hx4:=hs4 _ _ hx3
 have hy4:=hs4 _ _ hy3
 have hvb4:=hs4 _ _ hb3
 have hvd4:=hs4 _ _ hd3
 have HB4:=hid (HB0.out.trans (hb4.mono (by omega)))
 have HBB4:=hid hb4
 clear hc3 hs4 hb4 HP HQ HR HT H3 hx3 hy3 hb3 hd3 HB3 HBB3
 obtain ⟨D,hD⟩:=eX (((p:Nat):Int)+((q:Nat):Int) - ((r:Nat):Int) - ((t:Nat):Int):Int)
 rw [←hD]
 have hD1:¬ D < -1∧1<D:=by omega
 obtain ⟨hD2,hD3⟩:=hD1
 have HC9:=hid (BT (w:=w4) D 0)
 have hci:A0' D 0=1:=by unfold A0';first | rw [if_pos (by omega)] | rw [if_neg (by omega),if_neg (by omega)]
 rw [hci] at HC9
 clear hci hD e1 e2 e3 h2
 go_wp2_with fail
 refine (HC9.out).mono ?_
 rintro e w5 ⟨rfl,rfl⟩
 go_wp2_with fail
 go_ret
 exact Bt HM.out.symm HB4.out
theorem E9' {w:World} {vx vy:Value} {x y:Rat} (hx:Ac' w vx x) (hy:Ac' w vy y) (hs:Aa' x≤34359738368) (ht:Aa' y≤34359738368) (hx0:x≠0) (hy0:y≠0) (h:x.den≠y.den) (h2 : -1≤((bitlen x.num.natAbs:Nat):Int)+(bitlen y.den:Nat) - (bitlen y.num.natAbs:Nat) - (bitlen x.den:Nat)∧((bitlen x.num.natAbs:Nat):Int)+(bitlen y.den:Nat) - (bitlen y.num.natAbs:Nat) - (bitlen x.den:Nat)≤1) :
   Calls Tryz.prog 55 #[vx,vy] w (AW' w (Ar (x.num.natAbs*y.den) (y.num.natAbs*x.den))):=by
 obtain ⟨A1,c1,A2,c2,rfl,hx1,hx2⟩:=hx.opened
 obtain ⟨A3,c3,A4,c4,rfl,hy1,hy2⟩:=hy.opened
 obtain ⟨wB,hwB⟩:=eX ((w.alloc (.cells #[.bool (decide (x.num<0)),.slice A1 (len x.num.natAbs) c1,.slice A2 (len (below x.den)) c2] 35)).alloc (.cells #[.bool (decide (y.num<0)),.slice A3 (len y.num.natAbs) c3,.slice A4 (len (below y.den)) c4] 35))
 obtain ⟨b0,gA,gA2⟩:=AL' hwB
 obtain ⟨k0,k1,k2⟩:=Ad' gA
 obtain ⟨k3,k4,k5⟩:=Ad' gA2
 have hsz:wB.heap.size=w.heap.size+2:=by rw [hwB];simp
 have HSZ:=hid hsz
 have HB0:=hid b0
 have hlt1:w.heap.size<w.heap.size+2:=by omega
 have hlt2:w.heap.size+1<w.heap.size+2:=by omega
 clear gA gA2 b0 hsz
 have HX:=fun (w':World) (hk:Ah' wB (w.heap.size+2) wB w')=>hid (AD (hx.keep (HB0.out.trans (hk.2.1.mono (by omega)))))
 have HY:=fun (w':World) (hk:Ah' wB (w.heap.size+2) wB w')=>hid (AD (hy.keep (HB0.out.trans (hk.2.1.mono (by omega)))))
 have H0:=Ah'.start wB (w.heap.size+2)
 have l1:=Ai x;have l2:=Ai' x;have l3:=Ai y;have l4:=Ai' y
 have HL:=hid (show len x.num.natAbs≤34359738368∧len x.den≤34359738368∧len y.num.natAbs≤34359738368∧len y.den≤34359738368 by omega)
 have n1:0<x.num.natAbs:=by have:x.num≠0:=fun e=>hx0 (Rat.num_eq_zero.1 e);omega
 have n2:0<y.num.natAbs:=by have:y.num≠0:=fun e=>hy0 (Rat.num_eq_zero.1 e);omega
 have n3:0<x.den:=x.den_pos
 have n4:0<y.den:=y.den_pos
 have htest:(Ar x.den y.den==0)=false:=by rw [Cz'];exact dF_ h
 clear h
 obtain ⟨p,hp⟩:=eX (bitlen x.num.natAbs)
 obtain ⟨q,hq⟩:=eX (bitlen y.den)
 obtain ⟨r,hr⟩:=eX (bitlen y.num.natAbs)
 obtain ⟨t,ht'⟩:=eX (bitlen x.den)
 have bp:p≤2199023255552:=by rw [hp];exact AM (by omega)
 have bq:q≤2199023255552:=by rw [hq];exact AM (by omega)
 have br:r≤2199023255552:=by rw [hr];exact AM (by omega)
 have bt:t≤2199023255552:=by rw [ht'];exact AM (by omega)
 have HP0:=hid hp;have HQ0:=hid hq;have HR0:=hid hr;have HT0:=hid ht'
 rw [←hp,←hq,←hr,←ht'] at h2
 clear hp hq hr ht'
 clear hs ht l1 l2 l3 l4 hx0 hy0
 go_enter Tryz.func55,Tryz.ntmps55
 go_wp2_with fail
 rw [←hwB]
 clear hwB
 go_region_held3 (fun w'=>(∀ b o,b<w.heap.size+2→w'.cell? ⟨b,o,none⟩=wB.cell? ⟨b,o,none⟩)∧Below (w.heap.size+2) wB w'∧An' wB w')
   (first | exact H0 | exact hk2 | exact hk1)
   (first | (go_at_call_of 61 (Value.agg #[.bool (decide (x.num<0)),.slice A1 (len x.num.natAbs) c1,.slice A2 (len (below x.den)) c2]);refine ((HX _ ?_).out).mono ?_;assumption;rintro e w1 ⟨vb,rfl,hvb,hbl1⟩;have hk1:=Ah'.call (by assumption) (Nat.le_of_eq HSZ.out.symm) hbl1) | (go_at_call_of 61 (Value.agg #[.bool (decide (y.num<0)),.slice A3 (len y.num.natAbs) c3,.slice A4 (len (below y.den)) c4]);refine ((HY _ ?_).out).mono ?_;assumption;rintro e w2 ⟨vd,rfl,hvd,hbl2⟩;have hk2:=Ah'.call (by assumption) (Nat.le_of_eq HSZ.out.symm) hbl2))
 rename_i hHl
 clear hHl
 have hb2:=hvb.keep hbl2
 have HB2:=hid (HB0.out.trans (hk2.2.1.mono (by omega)))
 have HBB:=hid hk2.2.1
 have hc2:=hk2.1
 have hx2':=hx1.keep HB2.out
 have hy2':=hy1.keep HB2.out
 have HC1:=hid (Bs' hb2 hvd)
 try rw [htest] at HC1
 clear HX HY hbl1 hbl2 hvb hk1 hk2 H0
 go_wp2_with fail
 refine (HC1.out).mono ?_
 rintro e w3' ⟨rfl,k,rfl⟩
 have hb3:=hb2.drewN k
 have hd3:=hvd.drewN k
 have hx3:=hx2'.drewN k
 have hy3:=hy2'.drewN k
 have HB3:=hid (Ae' HB2.out (Aw w2 k))
 have HBB3:=hid (HBB.out.trans (show Below (w.heap.size+2) w2 (w2.drewN k) from ⟨rfl,rfl,rfl,nL _,fun _ _=>rfl⟩))
 clear hb2 hvd hx2' hy2' HB2 HBB hc2 HC1
 generalize w2.drewN k=w3 at hb3 hd3 hx3 hy3 HB3 HBB3 ⊢
 have hc3:=Au HBB3.out
 have H3:=Ah'.begin (wS:=w3) HBB3.out rfl
 have HP:=fun (w':World) (hk:Ah' wB (w.heap.size+2) w3 w')=>hid (AH (hk.2.2 _ _ hx3) (nT HL.out.1 (by decide)))
 have HQ:=fun (w':World) (hk:Ah' wB (w.heap.size+2) w3 w')=>hid (AH (hk.2.2 _ _ hd3) (nT HL.out.2.2.2 (by decide)))
 have HR:=fun (w':World) (hk:Ah' wB (w.heap.size+2) w3 w')=>hid (AH (hk.2.2 _ _ hy3) (nT HL.out.2.2.1 (by decide)))
 have HT:=fun (w':World) (hk:Ah' wB (w.heap.size+2) w3 w')=>hid (AH (hk.2.2 _ _ hb3) (nT HL.out.2.1 (by decide)))
 rw [←HP0.out] at HP
 rw [←HQ0.out] at HQ
 rw [←HR0.out] at HR
 rw [←HT0.out] at HT
 have e1:IntKind.i64.wrap (((p:Nat):Int)+((q:Nat):Int))=((p:Nat):Int)+((q:Nat):Int):=by rw [IntKind.wrap_i64];omega
 have e2:IntKind.i64.wrap (((p:Nat):Int)+((q:Nat):Int) - ((r:Nat):Int))=((p:Nat):Int)+((q:Nat):Int) - ((r:Nat):Int):=by rw [IntKind.wrap_i64];omega
 have e3:IntKind.i64.wrap (((p:Nat):Int)+((q:Nat):Int) - ((r:Nat):Int) - ((t:Nat):Int))=((p:Nat):Int)+((q:Nat):Int) - ((r:Nat):Int) - ((t:Nat):Int):=by rw [IntKind.wrap_i64];omega
 go_wp2_with fail
 go_region_held3 (fun w'=>(∀ b o,b<w.heap.size+2→w'.cell? ⟨b,o,none⟩=wB.cell? ⟨b,o,none⟩)∧Below (w.heap.size+2) wB w'∧An' w3 w')
   (first | exact H3 | assumption)
   (first | (go_at_call_of 93 (Value.slice A1 (len x.num.natAbs) c1);refine ((HP _ ?_).out).mono ?_;assumption;rintro e w4 ⟨rfl,rfl⟩) | (go_at_call_of 93 vd;refine ((HQ _ ?_).out).mono ?_;assumption;rintro e w4 ⟨rfl,rfl⟩) | (go_at_call_of 93 (Value.slice A3 (len y.num.natAbs) c3);refine ((HR _ ?_).out).mono ?_;assumption;rintro e w4 ⟨rfl,rfl⟩) | (go_at_call_of 93 vb;refine ((HT _ ?_).out).mono ?_;assumption;rintro e w4 ⟨rfl,rfl⟩))
 rename_i hHl
 generalize w3.drew=w4 at hHl ⊢
 obtain ⟨hc4,hb4,hs4⟩:=hHl
 have hx4:=hs4 _ _ hx3
 have hy4:=hs4 _ _ hy3
 have hvb4:=hs4 _ _ hb3
 have hvd4:=hs4 _ _ hd3
 have HB4:=hid (HB0.out.trans (hb4.mono (by omega)))
 have HBB4:=hid hb4
 clear hc3 hs4 hb4 HP HQ HR HT H3 hx3 hy3 hb3 hd3 HB3 HBB3
 obtain ⟨D,hD⟩:=eX (((p:Nat):Int)+((q:Nat):Int) - ((r:Nat):Int) - ((t:Nat):Int):Int)
 rw [←hD]
 have hD2:¬ D < -1:=by omega
 have hD3:¬ 1<D:=by omega
 clear hD e1 e2 e3 h2
 have H4:=Ah'.begin (wS:=w4) HBB4.out rfl
 have HM1:=fun (w':World) (hk:Ah' wB (w.heap.size+2) w4 w')=>hid (AS (hk.2.2 _ _ hx4) (hk.2.2 _ _ hvd4) (nT HL.out.1 (by decide)) (nT HL.out.2.2.2 (by decide)))
 have HM2:=fun (w':World) (hk:Ah' wB (w.heap.size+2) w4 w')=>hid (AS (hk.2.2 _ _ hy4) (hk.2.2 _ _ hvb4) (nT HL.out.2.2.1 (by decide)) (nT HL.out.2.1 (by decide)))
 go_wp2_with fail
 go_region_held3 (fun w'=>(∀ b o,b<w.heap.size+2→w'.cell? ⟨b,o,none⟩=wB.cell? ⟨b,o,none⟩)∧Below (w.heap.size+2) wB w'∧An' w4 w')
   (first | exact H4 | exact hk7 | exact hk6 | exact hk5)
   (first | (go_at_call_of 64 (Value.slice A1 (len x.num.natAbs) c1);refine ((HM1 _ ?_).out).mono ?_;assumption;rintro e w5 ⟨v5,rfl,hv5,hbl5⟩;have hk5:=Ah'.call (by assumption) (Nat.le_of_eq HSZ.out.symm) hbl5) | (go_at_call_of 64 (Value.slice A3 (len y.num.natAbs) c3);refine ((HM2 _ ?_).out).mono ?_;assumption;rintro e w6 ⟨v6,rfl,hv6,hbl6⟩;have hk6:=Ah'.call (by assumption) (Nat.le_of_eq HSZ.out.symm) hbl6) | (go_at_call 92;refine (Bs' (hv5.keep hbl6) hv6).mono ?_;rintro e w7 ⟨rfl,k7,rfl⟩;have hk7:=Ah'.call (by assumption) (Nat.le_of_eq HSZ.out.symm) (Aw w6 k7)))
 rename_i hHl
 clear hHl
 go_wp2_with fail
 go_ret
 exact Bt rfl (HB0.out.trans (hk7.2.1.mono (by omega)))
theorem Dd' {w:World} {vx vy:Value} {x y:Rat} (hx:Ac' w vx x) (hy:Ac' w vy y) (hs:Aa' x≤34359738368) (ht:Aa' y≤34359738368) (hx0:x≠0) (hy0:y≠0) :
   Calls Tryz.prog 55 #[vx,vy] w (AW' w (Ar (x.num.natAbs*y.den) (y.num.natAbs*x.den))):=by
 by_cases h:x.den=y.den
 · exact Fu hx hy hs ht hx0 hy0 h
 · rcases Int.lt_or_le (((bitlen x.num.natAbs:Nat):Int)+(bitlen y.den:Nat) - (bitlen y.num.natAbs:Nat) - (bitlen x.den:Nat)) (-1) with h2 | h2
   · exact Fu' hx hy hs ht hx0 hy0 h h2
   · rcases Int.lt_or_le 1 (((bitlen x.num.natAbs:Nat):Int)+(bitlen y.den:Nat) - (bitlen y.num.natAbs:Nat) - (bitlen x.den:Nat)) with h3 | h3
     · exact Fv hx hy hs ht hx0 hy0 h h3
     · exact E9' hx hy hs ht hx0 hy0 h ⟨h2,h3⟩
def cmpQ (x y:Rat):Int:=if x<y then -1 else if x=y then 0 else 1
theorem Cc (x y:Rat):cmpQ x y=A0' (x.num*y.den) (y.num*x.den):=by
 unfold cmpQ A0'
 simp only [Rat.lt_iff,Rat.eq_iff_mul_eq_mul]
theorem Dt' (a b:Nat):A0' ((a:Nat):Int) ((b:Nat):Int)=Ar a b:=by
 unfold A0' Ar
 simp only [Int.ofNat_lt,Int.natCast_inj]
theorem Hv {x y:Rat} (hx:0<x.num) (hy:0<y.num):cmpQ x y=Ar (x.num.natAbs*y.den) (y.num.natAbs*x.den):=by
 rw [Cc,←Dt',Int.natCast_mul,Int.natCast_mul]
 rw [show ((x.num.natAbs:Nat):Int)=x.num by omega,show ((y.num.natAbs:Nat):Int)=y.num by omega]
theorem Hv' {x y:Rat} (hx:x.num<0) (hy:y.num<0):cmpQ x y=Ar (y.num.natAbs*x.den) (x.num.natAbs*y.den):=by
 rw [Cc,←Dt',Int.natCast_mul,Int.natCast_mul]
 rw [show ((x.num.natAbs:Nat):Int) = -x.num by omega,show ((y.num.natAbs:Nat):Int) = -y.num by omega]
 rw [Int.neg_mul,Int.neg_mul]
 unfold A0'
 split
 · rw [if_pos (by omega)]
 · split
   · rw [if_neg (by omega),if_pos (by omega)]
   · rw [if_neg (by omega),if_neg (by omega)]
theorem Fa {n:Int} {d:Nat} (hd:0<d):(n<0→n*d<0)∧(n=0→n*d=0)∧(0<n→0<n*d):=by
 have h:(0:Int)<d:=by omega
 refine ⟨fun e=>Int.mul_neg_of_neg_of_pos e h,fun e=>by rw [e,Int.zero_mul],fun e=>Int.mul_pos e h⟩
theorem DP {x y:Rat} (h:x.num.sign≠y.num.sign∨x.num.sign=0∧y.num.sign=0):cmpQ x y=A0' x.num.sign y.num.sign:=by
 rw [Cc]
 obtain ⟨a1,a2,a3⟩:=Fa (n:=x.num) y.den_pos
 obtain ⟨b1,b2,b3⟩:=Fa (n:=y.num) x.den_pos
 generalize x.num*y.den=p at *
 generalize y.num*x.den=q at *
 rcases Int.lt_trichotomy x.num 0 with hx | hx | hx <;> rcases Int.lt_trichotomy y.num 0 with hy | hy | hy
 all_goals
   try rw [Int.sign_eq_neg_one_of_neg hx] at h ⊢
   try rw [Int.sign_eq_neg_one_of_neg hy] at h ⊢
   try rw [Int.sign_eq_one_of_pos hx] at h ⊢
   try rw [Int.sign_eq_one_of_pos hy] at h ⊢
   try rw [show x.num.sign=0 by rw [hx];rfl] at h ⊢
   try rw [show y.num.sign=0 by rw [hy];rfl] at h ⊢
   first
     | exact absurd h (by decide)
     | (simp only [hx,hy,forall_const] at a1 a2 a3 b1 b2 b3
        unfold A0'
        first
          | (rw [if_pos (by omega),if_pos (by decide)])
          | (rw [if_neg (by omega),if_neg (by omega),if_neg (by decide),if_neg (by decide)])
          | (rw [if_neg (by omega),if_pos (by omega),if_neg (by decide),if_pos (by decide)]))
theorem Gc {w:World} {vx vy:Value} {x y:Rat} (hx:Ac' w vx x) (hy:Ac' w vy y) (hs:Aa' x≤34359738368) (ht:Aa' y≤34359738368) (h:x.num.sign≠y.num.sign) :
   Calls Tryz.prog 17 #[vx,vy] w (AW' w (cmpQ x y)):=by
 obtain ⟨A1,c1,A2,c2,rfl,hx1,hx2⟩:=hx.opened
 obtain ⟨A3,c3,A4,c4,rfl,hy1,hy2⟩:=hy.opened
 obtain ⟨wB,hwB⟩:=eX ((w.alloc (.cells #[.bool (decide (x.num<0)),.slice A1 (len x.num.natAbs) c1,.slice A2 (len (below x.den)) c2] 35)).alloc (.cells #[.bool (decide (y.num<0)),.slice A3 (len y.num.natAbs) c3,.slice A4 (len (below y.den)) c4] 35))
 obtain ⟨b0,gA,gA2⟩:=AL' hwB
 obtain ⟨k0,k1,k2⟩:=Ad' gA
 obtain ⟨k3,k4,k5⟩:=Ad' gA2
 have hsz:wB.heap.size=w.heap.size+2:=by rw [hwB];simp
 have HSZ:=hid hsz
 have HB0:=hid b0
 have hlt1:w.heap.size<w.heap.size+2:=by omega
 have hlt2:w.heap.size+1<w.heap.size+2:=by omega
 clear gA gA2 b0 hsz
 have HX:=fun (w':World) (hk:Ah' wB (w.heap.size+2) wB w')=>hid (AS' (hx.keep (HB0.out.trans (hk.2.1.mono (by omega)))))
 have HY:=fun (w':World) (hk:Ah' wB (w.heap.size+2) wB w')=>hid (AS' (hy.keep (HB0.out.trans (hk.2.1.mono (by omega)))))
 have H0:=Ah'.start wB (w.heap.size+2)
 have hM:=DP (.inl h)
 obtain ⟨sx,hsx⟩:=eX x.num.sign
 obtain ⟨sy,hsy⟩:=eX y.num.sign
 rw [←hsx,←hsy] at hM
 rw [←hsx] at HX
 rw [←hsy] at HY
 have hne:(sx != sy)=true:=by rw [bne_iff_ne,hsx,hsy];exact h
 have HM:=hid hM
 clear hM h hsx hsy
 clear hs ht
 go_enter Tryz.func17,Tryz.ntmps17
 go_wp2_with fail
 rw [←hwB]
 clear hwB
 go_region_held3 (fun w'=>(∀ b o,b<w.heap.size+2→w'.cell? ⟨b,o,none⟩=wB.cell? ⟨b,o,none⟩)∧Below (w.heap.size+2) wB w'∧An' wB w')
   (first | exact H0 | exact hk2 | exact hk1)
   (first | (go_at_call_of 35 (Value.agg #[.bool (decide (x.num<0)),.slice A1 (len x.num.natAbs) c1,.slice A2 (len (below x.den)) c2]);refine ((HX _ ?_).out).mono ?_;assumption;rintro e w1 ⟨rfl,hbl1⟩;have hk1:=Ah'.call (by assumption) (Nat.le_of_eq HSZ.out.symm) hbl1) | (go_at_call_of 35 (Value.agg #[.bool (decide (y.num<0)),.slice A3 (len y.num.natAbs) c3,.slice A4 (len (below y.den)) c4]);refine ((HY _ ?_).out).mono ?_;assumption;rintro e w2 ⟨rfl,hbl2⟩;have hk2:=Ah'.call (by assumption) (Nat.le_of_eq HSZ.out.symm) hbl2))
 rename_i hHl
 clear hHl
 have hc2:=hk2.1
 have HB2:=hid (HB0.out.trans (hk2.2.1.mono (by omega)))
 clear HX HY hbl1 hbl2 hk1 hk2 H0
 have HC9:=hid (BT (w:=w2) sx sy)
 go_wp2_with fail
 refine (HC9.out).mono ?_
 rintro e w5 ⟨rfl,rfl⟩
 go_wp2_with fail
 go_ret
 exact Bt HM.out.symm HB2.out
theorem Fv' {w:World} {vx vy:Value} {x y:Rat} (hx:Ac' w vx x) (hy:Ac' w vy y) (hs:Aa' x≤34359738368) (ht:Aa' y≤34359738368) (h:x.num.sign=0∧y.num.sign=0) :
   Calls Tryz.prog 17 #[vx,vy] w (AW' w (cmpQ x y)):=by
 obtain ⟨A1,c1,A2,c2,rfl,hx1,hx2⟩:=hx.opened
 obtain ⟨A3,c3,A4,c4,rfl,hy1,hy2⟩:=hy.opened
 obtain ⟨wB,hwB⟩:=eX ((w.alloc (.cells #[.bool (decide (x.num<0)),.slice A1 (len x.num.natAbs) c1,.slice A2 (len (below x.den)) c2] 35)).alloc (.cells #[.bool (decide (y.num<0)),.slice A3 (len y.num.natAbs) c3,.slice A4 (len (below y.den)) c4] 35))
 obtain ⟨b0,gA,gA2⟩:=AL' hwB
 obtain ⟨k0,k1,k2⟩:=Ad' gA
 obtain ⟨k3,k4,k5⟩:=Ad' gA2
 have hsz:wB.heap.size=w.heap.size+2:=by rw [hwB];simp
 have HSZ:=hid hsz
 have HB0:=hid b0
 have hlt1:w.heap.size<w.heap.size+2:=by omega
 have hlt2:w.heap.size+1<w.heap.size+2:=by omega
 clear gA gA2 b0 hsz
 have HX:=fun (w':World) (hk:Ah' wB (w.heap.size+2) wB w')=>hid (AS' (hx.keep (HB0.out.trans (hk.2.1.mono (by omega)))))
 have HY:=fun (w':World) (hk:Ah' wB (w.heap.size+2) wB w')=>hid (AS' (hy.keep (HB0.out.trans (hk.2.1.mono (by omega)))))
 have H0:=Ah'.start wB (w.heap.size+2)
 have hM:=DP (.inr h)
 rw [h.1,h.2] at hM
 rw [h.1] at HX
 rw [h.2] at HY
 have HM:=hid hM
 clear hM h
 clear hs ht
 go_enter Tryz.func17,Tryz.ntmps17
 go_wp2_with fail
 rw [←hwB]
 clear hwB
 go_region_held3 (fun w'=>(∀ b o,b<w.heap.size+2→w'.cell? ⟨b,o,none⟩=wB.cell? ⟨b,o,none⟩)∧Below (w.heap.size+2) wB w'∧An' wB w')
   (first | exact H0 | exact hk2 | exact hk1)
   (first | (go_at_call_of 35 (Value.agg #[.bool (decide (x.num<0)),.slice A1 (len x.num.natAbs) c1,.slice A2 (len (below x.den)) c2]);refine ((HX _ ?_).out).mono ?_;assumption;rintro e w1 ⟨rfl,hbl1⟩;have hk1:=Ah'.call (by assumption) (Nat.le_of_eq HSZ.out.symm) hbl1) | (go_at_call_of 35 (Value.agg #[.bool (decide (y.num<0)),.slice A3 (len y.num.natAbs) c3,.slice A4 (len (below y.den)) c4]);refine ((HY _ ?_).out).mono ?_;assumption;rintro e w2 ⟨rfl,hbl2⟩;have hk2:=Ah'.call (by assumption) (Nat.le_of_eq HSZ.out.symm) hbl2))
 rename_i hHl
 clear hHl
 have hc2:=hk2.1
 have HB2:=hid (HB0.out.trans (hk2.2.1.mono (by omega)))
 clear HX HY hbl1 hbl2 hk1 hk2 H0
 have HC9:=hid (BT (w:=w2) 0 0)
 go_wp2_with fail
 refine (HC9.out).mono ?_
 rintro e w5 ⟨rfl,rfl⟩
 go_wp2_with fail
 go_ret
 exact Bt HM.out.symm HB2.out
theorem Gc' {w:World} {vx vy:Value} {x y:Rat} (hx:Ac' w vx x) (hy:Ac' w vy y) (hs:Aa' x≤34359738368) (ht:Aa' y≤34359738368) (h:x.num<0∧y.num<0) :
   Calls Tryz.prog 17 #[vx,vy] w (AW' w (cmpQ x y)):=by
 obtain ⟨A1,c1,A2,c2,rfl,hx1,hx2⟩:=hx.opened
 obtain ⟨A3,c3,A4,c4,rfl,hy1,hy2⟩:=hy.opened
 obtain ⟨wB,hwB⟩:=eX ((w.alloc (.cells #[.bool (decide (x.num<0)),.slice A1 (len x.num.natAbs) c1,.slice A2 (len (below x.den)) c2] 35)).alloc (.cells #[.bool (decide (y.num<0)),.slice A3 (len y.num.natAbs) c3,.slice A4 (len (below y.den)) c4] 35))
 obtain ⟨b0,gA,gA2⟩:=AL' hwB
 obtain ⟨k0,k1,k2⟩:=Ad' gA
 obtain ⟨k3,k4,k5⟩:=Ad' gA2
 have hsz:wB.heap.size=w.heap.size+2:=by rw [hwB];simp
 have HSZ:=hid hsz
 have HB0:=hid b0
 have hlt1:w.heap.size<w.heap.size+2:=by omega
 have hlt2:w.heap.size+1<w.heap.size+2:=by omega
 clear gA gA2 b0 hsz
 have HX:=fun (w':World) (hk:Ah' wB (w.heap.size+2) wB w')=>hid (AS' (hx.keep (HB0.out.trans (hk.2.1.mono (by omega)))))
 have HY:=fun (w':World) (hk:Ah' wB (w.heap.size+2) wB w')=>hid (AS' (hy.keep (HB0.out.trans (hk.2.1.mono (by omega)))))
 have H0:=Ah'.start wB (w.heap.size+2)
 have HM:=hid (Hv' h.1 h.2)
 have e1:x.num.sign = -1:=Int.sign_eq_neg_one_of_neg h.1
 have e2:y.num.sign = -1:=Int.sign_eq_neg_one_of_neg h.2
 rw [e1] at HX
 rw [e2] at HY
 have H1:=hid ht;have H2:=hid hs
 have N1:Hid (y≠0):=fun e=>by rw [e] at h;simp at h
 have N2:Hid (x≠0):=fun e=>by rw [e] at h;simp at h
 have HNG:=hid h
 clear e1 e2 h
 clear hs ht
 go_enter Tryz.func17,Tryz.ntmps17
 go_wp2_with fail
 rw [←hwB]
 clear hwB
 go_region_held3 (fun w'=>(∀ b o,b<w.heap.size+2→w'.cell? ⟨b,o,none⟩=wB.cell? ⟨b,o,none⟩)∧Below (w.heap.size+2) wB w'∧An' wB w')
   (first | exact H0 | exact hk2 | exact hk1)
   (first | (go_at_call_of 35 (Value.agg #[.bool (decide (x.num<0)),.slice A1 (len x.num.natAbs) c1,.slice A2 (len (below x.den)) c2]);refine ((HX _ ?_).out).mono ?_;assumption;rintro e w1 ⟨rfl,hbl1⟩;have hk1:=Ah'.call (by assumption) (Nat.le_of_eq HSZ.out.symm) hbl1) | (go_at_call_of 35 (Value.agg #[.bool (decide (y.num<0)),.slice A3 (len y.num.natAbs) c3,.slice A4 (len (below y.den)) c4]);refine ((HY _ ?_).out).mono ?_;assumption;rintro e w2 ⟨rfl,hbl2⟩;have hk2:=Ah'.call (by assumption) (Nat.le_of_eq HSZ.out.symm) hbl2))
 rename_i hHl
 clear hHl
 have hc2:=hk2.1
 have HB2:=hid (HB0.out.trans (hk2.2.1.mono (by omega)))
 clear HX HY hbl1 hbl2 hk1 hk2 H0
 have HC9:=hid (Dd' (hy.keep HB2.out) (hx.keep HB2.out) H1.out H2.out N1.out N2.out)
 have hng:decide (x.num<0)=true:=dT_ HNG.out.1
 rw [hng] at HC9
 have HC9':=HC9
 clear HC9 hx hy hx1 hx2 hy1 hy2
 go_wp2_with fail
 refine (HC9'.out).mono ?_
 rintro e w5 ⟨rfl,hb5⟩
 go_wp2_with fail
 go_ret
 exact Bt HM.out.symm (Ae' HB2.out hb5)
theorem Gd {w:World} {vx vy:Value} {x y:Rat} (hx:Ac' w vx x) (hy:Ac' w vy y) (hs:Aa' x≤34359738368) (ht:Aa' y≤34359738368) (h:0<x.num∧0<y.num) :
   Calls Tryz.prog 17 #[vx,vy] w (AW' w (cmpQ x y)):=by
 obtain ⟨A1,c1,A2,c2,rfl,hx1,hx2⟩:=hx.opened
 obtain ⟨A3,c3,A4,c4,rfl,hy1,hy2⟩:=hy.opened
 obtain ⟨wB,hwB⟩:=eX ((w.alloc (.cells #[.bool (decide (x.num<0)),.slice A1 (len x.num.natAbs) c1,.slice A2 (len (below x.den)) c2] 35)).alloc (.cells #[.bool (decide (y.num<0)),.slice A3 (len y.num.natAbs) c3,.slice A4 (len (below y.den)) c4] 35))
 obtain ⟨b0,gA,gA2⟩:=AL' hwB
 obtain ⟨k0,k1,k2⟩:=Ad' gA
 obtain ⟨k3,k4,k5⟩:=Ad' gA2
 have hsz:wB.heap.size=w.heap.size+2:=by rw [hwB];simp
 have HSZ:=hid hsz
 have HB0:=hid b0
 have hlt1:w.heap.size<w.heap.size+2:=by omega
 have hlt2:w.heap.size+1<w.heap.size+2:=by omega
 clear gA gA2 b0 hsz
 have HX:=fun (w':World) (hk:Ah' wB (w.heap.size+2) wB w')=>hid (AS' (hx.keep (HB0.out.trans (hk.2.1.mono (by omega)))))
 have HY:=fun (w':World) (hk:Ah' wB (w.heap.size+2) wB w')=>hid (AS' (hy.keep (HB0.out.trans (hk.2.1.mono (by omega)))))
 have H0:=Ah'.start wB (w.heap.size+2)
 have HM:=hid (Hv h.1 h.2)
 have e1:x.num.sign=1:=Int.sign_eq_one_of_pos h.1
 have e2:y.num.sign=1:=Int.sign_eq_one_of_pos h.2
 rw [e1] at HX
 rw [e2] at HY
 have H1:=hid hs;have H2:=hid ht
 have N1:Hid (x≠0):=fun e=>by rw [e] at h;simp at h
 have N2:Hid (y≠0):=fun e=>by rw [e] at h;simp at h
 have HNG:=hid h
 clear e1 e2 h
 clear hs ht
 go_enter Tryz.func17,Tryz.ntmps17
 go_wp2_with fail
 rw [←hwB]
 clear hwB
 go_region_held3 (fun w'=>(∀ b o,b<w.heap.size+2→w'.cell? ⟨b,o,none⟩=wB.cell? ⟨b,o,none⟩)∧Below (w.heap.size+2) wB w'∧An' wB w')
   (first | exact H0 | exact hk2 | exact hk1)
   (first | (go_at_call_of 35 (Value.agg #[.bool (decide (x.num<0)),.slice A1 (len x.num.natAbs) c1,.slice A2 (len (below x.den)) c2]);refine ((HX _ ?_).out).mono ?_;assumption;rintro e w1 ⟨rfl,hbl1⟩;have hk1:=Ah'.call (by assumption) (Nat.le_of_eq HSZ.out.symm) hbl1) | (go_at_call_of 35 (Value.agg #[.bool (decide (y.num<0)),.slice A3 (len y.num.natAbs) c3,.slice A4 (len (below y.den)) c4]);refine ((HY _ ?_).out).mono ?_;assumption;rintro e w2 ⟨rfl,hbl2⟩;have hk2:=Ah'.call (by assumption) (Nat.le_of_eq HSZ.out.symm) hbl2))
 rename_i hHl
 clear hHl
 have hc2:=hk2.1
 have HB2:=hid (HB0.out.trans (hk2.2.1.mono (by omega)))
 clear HX HY hbl1 hbl2 hk1 hk2 H0
 have HC9:=hid (Dd' (hx.keep HB2.out) (hy.keep HB2.out) H1.out H2.out N1.out N2.out)
 have hng:decide (x.num<0)=false:=dF_ (by have:=HNG.out.1;omega)
 rw [hng] at HC9
 have HC9':=HC9
 clear HC9 hx hy hx1 hx2 hy1 hy2
 go_wp2_with fail
 refine (HC9'.out).mono ?_
 rintro e w5 ⟨rfl,hb5⟩
 go_wp2_with fail
 go_ret
 exact Bt HM.out.symm (Ae' HB2.out hb5)
theorem A6' {w:World} {vx vy:Value} {x y:Rat} (hx:Ac' w vx x) (hy:Ac' w vy y) (hs:Aa' x≤34359738368) (ht:Aa' y≤34359738368) :
   Calls Tryz.prog 17 #[vx,vy] w (AW' w (cmpQ x y)):=by
 by_cases h:x.num.sign=y.num.sign
 · rcases Int.lt_trichotomy x.num 0 with h1 | h1 | h1
   · refine Gc' hx hy hs ht ⟨h1,?_⟩
     rw [Int.sign_eq_neg_one_of_neg h1] at h
     exact Int.sign_eq_neg_one_iff_neg.1 h.symm
   · have e:x.num.sign=0:=by rw [h1];rfl
     exact Fv' hx hy hs ht ⟨e,h ▸ e⟩
   · refine Gd hx hy hs ht ⟨h1,?_⟩
     rw [Int.sign_eq_one_of_pos h1] at h
     exact Int.sign_eq_one_iff_pos.1 h.symm
 · exact Gc hx hy hs ht h
end Go.Proofs.YtflopjfnppolgaaGreatDoor
