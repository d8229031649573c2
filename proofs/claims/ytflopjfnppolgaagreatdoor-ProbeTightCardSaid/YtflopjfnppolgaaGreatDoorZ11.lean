/-
  Contracts of the functions that the law calls, for every input (NumC NumD NumE NumF NumG).
-/
import Derived.Test.YtflopjfnppolgaaGreatDoorZ00
import Derived.Test.YtflopjfnppolgaaGreatDoorZ10
set_option linter.all false
set_option maxRecDepth 100000
set_option maxHeartbeats 40000000
namespace Go.Proofs.YtflopjfnppolgaaGreatDoor
open Lib (hid)
open Go.RowKit
open Vx
theorem Be' {d:Nat} (h:d=1):(((len (below d):Nat):Int)==0)=true:=by subst h;rfl
theorem BW {d:Nat} (h0:0<d) (h:d≠1):(((len (below d):Nat):Int)==0)=false:=by
 have:below d=d:=by unfold below;rw [if_neg h]
 rw [this,beq_eq_false_iff_ne]
 have:=Ak.2 h0
 omega
theorem Dc' (neg:Bool) (t d:Nat):ratOf neg t d=mkRat (sgn neg t) d:=rfl
def Bm (w:World) (v:Value) (b:Bool) (q:Rat):Prop :=
  ∃ v1 v2,v=.agg #[.bool b,v1,v2]∧sgn b q.num.natAbs=q.num∧Nt w v1 q.num.natAbs∧Nt w v2 (below q.den)
theorem Bm.keep {w w':World} {v:Value} {b:Bool} {q:Rat} (h:Bm w v b q) (hb:Below w.heap.size w w'):Bm w' v b q:=by
 obtain ⟨v1,v2,h1,h2,h3,h4⟩:=h
 exact ⟨v1,v2,h1,h2,h3.keep hb,h4.keep hb⟩
theorem Ac'.anySign {w:World} {v:Value} {q:Rat} (h:Ac' w v q):Bm w v (decide (q.num<0)) q:=by
 obtain ⟨v1,v2,h1,h2,h3⟩:=h
 exact ⟨v1,v2,h1,Bx _,h2,h3⟩
theorem Bm.opened {w:World} {v:Value} {b:Bool} {q:Rat} (h:Bm w v b q):∃ A1 c1 A2 c2,v=.agg #[.bool b,.slice A1 (len q.num.natAbs) c1,.slice A2 (len (below q.den)) c2] ∧
   Nt w (.slice A1 (len q.num.natAbs) c1) q.num.natAbs∧Nt w (.slice A2 (len (below q.den)) c2) (below q.den):=by
 obtain ⟨v1,v2,rfl,_,h1,h2⟩:=h
 obtain ⟨A1,c1,rfl,h3⟩:=id h1
 obtain ⟨A2,c2,rfl,h4⟩:=id h2
 exact ⟨A1,c1,A2,c2,rfl,h1,h2⟩
theorem Bm.sgn {w:World} {v:Value} {b:Bool} {q:Rat} (h:Bm w v b q):sgn b q.num.natAbs=q.num:=by
 obtain ⟨_,_,_,h,_⟩:=h
 exact h
theorem Ds {w:World} {v:Value} {b:Bool} {q:Rat} (h:Bm w v b q):Calls Tryz.prog 61 #[v] w (AI w q.den):=by
 obtain ⟨v1,v2,rfl,h0,h1,h2⟩:=h
 obtain ⟨A,c,rfl,hc1,hc2,hz,hp⟩:=id h2
 clear h0
 by_cases hd:q.den=1
 · have hb0:below q.den=0:=by unfold below;rw [if_pos hd]
   have hl:len (below q.den)=0:=by rw [hb0,AG']
   have ht:(((len (below q.den):Nat):Int)==0)=true:=by rw [beq_iff_eq];omega
   have HD:=hid hd
   clear hd hb0 hl
   go_enter Tryz.func61,Tryz.ntmps61
   go_wp2
   go_ret
   refine ⟨_,rfl,?_,((Below.refl _ _).alloc (nL _) _).alloc (by simp) _⟩
   rw [HD.out]
   have e:=fun o=>CN (w.alloc o)
   simp only [World.size_alloc] at e
   exact e _
 · have hb0:below q.den=q.den:=by unfold below;rw [if_neg hd]
   have hl:0<len (below q.den):=by rw [hb0];exact Ak.2 q.den_pos
   have ht:(((len (below q.den):Nat):Int)==0)=false:=by rw [beq_eq_false_iff_ne];omega
   have HB:=hid hb0
   clear hd hb0
   go_enter Tryz.func61,Tryz.ntmps61
   go_wp2
   go_ret
   refine ⟨_,rfl,?_,(Below.refl _ _).alloc (nL _) _⟩
   have:=h2.keep ((Below.refl w.heap.size w).alloc (nL _) (.cells #[.bool b,v1,.slice A (len (below q.den)) c] 35))
   rw [HB.out] at this ⊢
   exact this
theorem Dd {w:World} {neg:Bool} {t:Nat} {vt:Value} {q:Rat} (ht:Nt w vt t) (hq:mkRat (sgn neg t) 1=q) :
   Calls Tryz.prog 60 #[.bool neg,vt,.slice none 0 0] w (Az' w q):=by
 have:=Cz (neg:=neg) ht (Nt.zero w) (by rw [if_pos rfl];exact Nat.coprime_one_right _)
 rw [if_pos rfl,Dc',hq] at this
 exact this
theorem BU {w:World} {neg:Bool} {t d:Nat} {vt vd:Value} {q:Rat} (ht:Nt w vt t) (hd:Nt w vd d) (h0:0<d) (hc:t.Coprime d) (hq:mkRat (sgn neg t) d=q) :
   Calls Tryz.prog 60 #[.bool neg,vt,vd] w (Az' w q):=by
 have:=Cz (neg:=neg) ht hd (by rw [if_neg (by omega)];exact hc)
 rw [if_neg (by omega),Dc',hq] at this
 exact this
theorem Ir' {w:World} {vx vy:Value} {x y:Rat} {sy:Bool} (hx:Ac' w vx x) (hy:Bm w vy sy y) (hs:Aa' x≤1099511627776) (ht:Aa' y≤1099511627776) (hdx:x.den=1) (hdy:y.den=1) :
   Calls Tryz.prog 22 #[vx,vy] w (Az' w (x+y)):=by
 obtain ⟨A1,c1,A2,c2,rfl,hx1,hx2⟩:=hx.opened
 obtain ⟨A3,c3,A4,c4,rfl,hy1,hy2⟩:=hy.opened
 obtain ⟨wB,hwB⟩:=eX (((w.alloc (.cells #[.bool (decide (x.num<0)),.slice A1 (len x.num.natAbs) c1,.slice A2 (len (below x.den)) c2] 35)).alloc (.cells #[.bool (sy),.slice A3 (len y.num.natAbs) c3,.slice A4 (len (below y.den)) c4] 35)).alloc (.cells #[.bool false,.slice none 0 0,.slice none 0 0] 35))
 obtain ⟨b0,gA,gA2,gB⟩:=AC hwB
 obtain ⟨k0,k1,k2⟩:=Ad' gA
 obtain ⟨k3,k4,k5⟩:=Ad' gA2
 have HK0:=hid (Aq'.start (T:=35) rfl (A1' _ _ _ _ _ _ _) gB)
 have HB0:=hid b0
 have hlt1:w.heap.size<w.heap.size+2:=by omega
 have hlt2:w.heap.size+1<w.heap.size+2:=by omega
 clear gA gA2 gB b0
 have HSY:=hid hy.sgn
 have t1:=Be' hdx
 have t2:=Be' hdy
 have hl1:=Ai x
 have hl2:=Ai y
 have HX:=fun (w':World) (hk:Below w.heap.size w w')=>hid (Cn (na:=decide (x.num<0)) (nb:=sy) (hx1.keep hk) (hy1.keep hk) (nT hl1 (nT hs (by decide))) (nT hl2 (nT ht (by decide))))
 have HE:=hid (Ht' hdx hdy)
 clear hdx hdy hl1 hl2
 go_enter Tryz.func22,Tryz.ntmps22
 go_wp2_with fail
 rw [←hwB]
 clear hwB
 refine ((HX _ HB0.out).out).mono ?_
 rintro e w1 ⟨neg,t,v,rfl,hv,hz,b1⟩
 have HF:=hid (Dd (neg:=neg) (q:=x+y) hv (by rw [hz,Bx,HSY.out];exact HE.out))
 clear hz
 have HK1:=hid (HK0.out.call b1)
 go_wp2_with fail
 refine (HF.out).mono ?_
 rintro e w2 ⟨v2,rfl,hv2,b2⟩
 obtain ⟨B1,e1,B2,e2,rfl,-,-⟩:=hv2.opened
 have hk:=(HK1.out.call b2).held (An'.refl _)
 obtain ⟨-,c0,c1,c2,f0,f1,f2,-⟩:=id hk
 have HD:=hk.done (q:=x+y) (b:=decide ((x+y).num<0)) (A1:=B1) (n1:=len (x+y).num.natAbs) (c1:=e1) (A2:=B2) (n2:=len (below (x+y).den)) (c2:=e2) (hv2)
 obtain ⟨d1,d2,d3⟩:=HD
 obtain ⟨r0,r1,r2⟩:=Ad' d3
 have HD:=hid (And.intro d1 d2)
 clear d1 d2 d3
 go_wp2_with fail
 refine bP (v:=.agg #[.bool (decide ((x+y).num<0)),.slice (B1) (len (x+y).num.natAbs) (e1),.slice (B2) (len (below (x+y).den)) (e2)]) ?_ rfl ⟨_,rfl,HD.out.1,Ak' HB0.out (by omega) HD.out.2⟩
 simp [results,Tryz.results22,go_sem,r0,r1,r2]
theorem Eu' {x y:Rat} {g:Nat} (hs:Aa' x≤34359738368) (ht:Aa' y≤34359738368) :
   len x.num.natAbs≤34359738368∧len y.num.natAbs≤34359738368∧len x.den≤34359738368∧len y.den≤34359738368∧len (x.den / g)≤34359738368∧len (y.den / g)≤34359738368:=by
 have:=Ai x;have:=Ai y;have:=Ai' x;have:=Ai' y
 have:=Am (Nat.div_le_self x.den g);have:=Am (Nat.div_le_self y.den g)
 omega
theorem Ds' {z:Int} {a b c d:Nat} {t:Nat} {neg:Bool} (hz:sgn neg t=z) (he:z.natAbs≤a*d+b*c) (h1:len a≤34359738368) (h2:len b≤34359738368) (h3:len c≤34359738368) (h4:len d≤34359738368) :
   len t≤68719476737:=by
 have e:t=z.natAbs:=by rw [←hz,Cp']
 rw [e]
 refine nT (Am he) (nT FL ?_)
 omega
theorem E8' (w:World):Ac' w (.agg #[.bool false,.slice none 0 0,.slice none 0 0]) 0:=Bi' w
theorem F8' {w:World} {vx vy:Value} {x y:Rat} {sy:Bool} (hx:Ac' w vx x) (hy:Bm w vy sy y) (hs:Aa' x≤34359738368) (ht:Aa' y≤34359738368) (hd:x.den≠1) :
   Calls Tryz.prog 22 #[vx,vy] w (Az' w (x+y)):=by
 obtain ⟨A1,c1,A2,c2,rfl,hx1,hx2⟩:=hx.opened
 obtain ⟨A3,c3,A4,c4,rfl,hy1,hy2⟩:=hy.opened
 obtain ⟨wB,hwB⟩:=eX (((w.alloc (.cells #[.bool (decide (x.num<0)),.slice A1 (len x.num.natAbs) c1,.slice A2 (len (below x.den)) c2] 35)).alloc (.cells #[.bool (sy),.slice A3 (len y.num.natAbs) c3,.slice A4 (len (below y.den)) c4] 35)).alloc (.cells #[.bool false,.slice none 0 0,.slice none 0 0] 35))
 obtain ⟨b0,gA,gA2,gB⟩:=AC hwB
 obtain ⟨k0,k1,k2⟩:=Ad' gA
 obtain ⟨k3,k4,k5⟩:=Ad' gA2
 have HK0:=hid (Aq'.start (T:=35) rfl (A1' _ _ _ _ _ _ _) gB)
 have HB0:=hid b0
 have hlt1:w.heap.size<w.heap.size+2:=by omega
 have hlt2:w.heap.size+1<w.heap.size+2:=by omega
 clear gA gA2 gB b0
 have HSY:=hid hy.sgn
 have t1:=BW x.den_pos hd
 clear hd
 have HX:=fun (w':World) (hk:An wB (w.heap.size+2) wB w')=>hid (AD (hx.keep (Ak' HB0.out (by omega) hk.kept.1)))
 have HY:=fun (w':World) (hk:An wB (w.heap.size+2) wB w')=>hid (Ds (hy.keep (Ak' HB0.out (by omega) hk.kept.1)))
 have H0:=HK0.out.begin
 obtain ⟨g,hg⟩:=eX (Nat.gcd x.den y.den)
 have HG:=hid hg
 have HS:=hid (Eu' (g:=g) hs ht)
 have g0:0<g:=hg ▸ Nat.gcd_pos_of_pos_left _ x.den_pos
 have gx:0<x.den:=x.den_pos
 have gy:0<y.den:=y.den_pos
 clear hg hs ht
 go_enter Tryz.func22,Tryz.ntmps22
 go_wp2_with fail
 rw [←hwB]
 clear hwB
 go_region_held3 (fun w'=>(∀ b o,b<w.heap.size+2→w'.cell? ⟨b,o,none⟩=wB.cell? ⟨b,o,none⟩)∧w'.cell? ⟨w.heap.size+2,0,none⟩=some (cur w' ⟨w.heap.size+2,0,none⟩)∧w'.cell? ⟨w.heap.size+2,1,none⟩=some (cur w' ⟨w.heap.size+2,1,none⟩)∧w'.cell? ⟨w.heap.size+2,2,none⟩=some (cur w' ⟨w.heap.size+2,2,none⟩)∧w'.frozen? ⟨w.heap.size+2,0,none⟩=false∧w'.frozen? ⟨w.heap.size+2,1,none⟩=false∧w'.frozen? ⟨w.heap.size+2,2,none⟩=false∧Aq' 3 35 wB (w.heap.size+2) w'∧An' wB w')
   (first | exact H0 | exact hk2 | exact hk1)
   (first | (go_at_call_of 61 (Value.agg #[.bool (decide (x.num<0)),.slice A1 (len x.num.natAbs) c1,.slice A2 (len (below x.den)) c2]);refine ((HX _ ?_).out).mono ?_;assumption;rintro e w1 ⟨vb,rfl,hvb,hbl1⟩;have hk1:=An.call (by assumption) hbl1) | (go_at_call_of 61 (Value.agg #[.bool (sy),.slice A3 (len y.num.natAbs) c3,.slice A4 (len (below y.den)) c4]);refine ((HY _ ?_).out).mono ?_;assumption;rintro e w2 ⟨vd,rfl,hvd,hbl2⟩;have hk2:=An.call (by assumption) hbl2))
 have hb2:=hvb.keep hbl2
 have HK2:=hid hk2.kept
 have HC1:=hid (BO' hb2 hvd (nT HS.out.2.2.1 (by decide)) (nT HS.out.2.2.2.1 (by decide)) (.inl gx))
 clear hk1 hk2 H0 HX HY hbl1 hbl2 hvb
 go_wp2_with fail
 refine (HC1.out).mono ?_
 rintro e w3 ⟨vg,rfl,hvg,b3⟩
 rw [←HG.out] at hvg
 have hb3:=hb2.keep b3
 have hd3:=hvd.keep b3
 have HK3:=hid (HK2.out.call b3)
 have HC2:=hid (AN hb3 hvg (nT HS.out.2.2.1 (by decide)) g0)
 clear b3 hb2 hvd HC1 HK2
 go_wp2_with fail
 refine (HC2.out).mono ?_
 rintro e w4 ⟨vbg,rfl,hbg,b4⟩
 have hd4:=hd3.keep b4
 have hg4:=hvg.keep b4
 have HK4:=hid (HK3.out.call b4)
 have HC3:=hid (AN hd4 hg4 (nT HS.out.2.2.2.1 (by decide)) g0)
 clear b4 hb3 hd3 hvg HK3 HC2
 go_wp2_with fail
 refine (HC3.out).mono ?_
 rintro e w5 ⟨vdg,rfl,hdg,b5⟩
 have hd5:=hd4.keep b5
 have hg5:=hg4.keep b5
 have hbg5:=hbg.keep b5
 have HK5:=hid (HK4.out.call b5)
 have H5:=HK5.out.begin
 have hx5:=hx1.keep (Ak' HB0.out (by omega) HK5.out.1)
 have hy5:=hy1.keep (Ak' HB0.out (by omega) HK5.out.1)
 have HM1:=fun (w':World) (hk:An wB (w.heap.size+2) w5 w')=>hid (AS (hk.stay _ _ hx5) (hk.stay _ _ hdg) (nT HS.out.1 (by decide)) (nT HS.out.2.2.2.2.2 (by decide)))
 have HM2:=fun (w':World) (hk:An wB (w.heap.size+2) w5 w')=>hid (AS (hk.stay _ _ hy5) (hk.stay _ _ hbg5) (nT HS.out.2.1 (by decide)) (nT HS.out.2.2.2.2.1 (by decide)))
 have HB1:Hid (len (x.num.natAbs*(y.den / g))≤8796093022208):=nT (At' _ _) (nT (Nat.add_le_add HS.out.1 HS.out.2.2.2.2.2) (by decide))
 have HB2:Hid (len (y.num.natAbs*(x.den / g))≤8796093022208):=nT (At' _ _) (nT (Nat.add_le_add HS.out.2.1 HS.out.2.2.2.2.1) (by decide))
 clear b5 hd4 hg4 hbg HK4 HC3 hdg
 go_wp2_with fail
 go_region_held3 (fun w'=>(∀ b o,b<w.heap.size+2→w'.cell? ⟨b,o,none⟩=wB.cell? ⟨b,o,none⟩)∧w'.cell? ⟨w.heap.size+2,0,none⟩=some (cur w' ⟨w.heap.size+2,0,none⟩)∧w'.cell? ⟨w.heap.size+2,1,none⟩=some (cur w' ⟨w.heap.size+2,1,none⟩)∧w'.cell? ⟨w.heap.size+2,2,none⟩=some (cur w' ⟨w.heap.size+2,2,none⟩)∧w'.frozen? ⟨w.heap.size+2,0,none⟩=false∧w'.frozen? ⟨w.heap.size+2,1,none⟩=false∧w'.frozen? ⟨w.heap.size+2,2,none⟩=false∧Aq' 3 35 wB (w.heap.size+2) w'∧An' w5 w')
   (first | exact H5 | exact hk8 | exact hk7 | exact hk6)
   (first | (go_at_call_of 64 (Value.slice A1 (len x.num.natAbs) c1);refine ((HM1 _ ?_).out).mono ?_;assumption;rintro e w6 ⟨v6,rfl,hv6,hbl6⟩;obtain ⟨B6,e6,rfl,-⟩:=id hv6;have hk6:=An.call (by assumption) hbl6) | (go_at_call_of 64 (Value.slice A3 (len y.num.natAbs) c3);refine ((HM2 _ ?_).out).mono ?_;assumption;rintro e w7 ⟨v7,rfl,hv7,hbl7⟩;obtain ⟨B7,e7,rfl,-⟩:=id hv7;have hk7:=An.call (by assumption) hbl7) | (go_at_call 59;refine (Cn (hv6.keep hbl7) hv7 HB1.out HB2.out).mono ?_;rintro e w8 ⟨neg,t,v8,rfl,hv8,hz8,hbl8⟩;obtain ⟨B8,e8,rfl,-⟩:=id hv8;have hk8:=An.call (by assumption) hbl8))
 rename_i hHl
 clear hHl
 have hz:sgn neg t=x.num*(y.den / g:Nat)+y.num*(x.den / g:Nat):=by rw [hz8,CU',CU',Bx,HSY.out]
 have HZ:=hid hz
 have hb7:=hk8.stay _ _ hbg5
 have hd7:=hk8.stay _ _ hd5
 have hg7:=hk8.stay _ _ hg5
 have HK8:=hid hk8.kept
 obtain ⟨-,c0,c1',c2',f0,f1,f2,-⟩:=id (hk8.kept.held (An'.refl _))
 have hlt8:len t≤68719476737:=Ds' (a:=x.num.natAbs) (b:=y.num.natAbs) (c:=x.den / g) (d:=y.den / g) hz (by
   refine nT (Int.natAbs_add_le _ _) ?_
   rw [Int.natAbs_mul,Int.natAbs_mul];exact nL _) HS.out.1 HS.out.2.1 HS.out.2.2.2.2.1 HS.out.2.2.2.2.2
 have HT8:=hid hlt8
 clear hz hz8 hlt8 HM1 HM2 hk6 hk7 hk8 hbl6 hbl7 hbl8 hv6 hv7 HB1 HB2 hx5 hy5 hbg5 hd5 hg5 H5 HK5
 obtain ⟨h,hh⟩:=eX (Nat.gcd t g)
 have HP:=hid (Et HG.out HZ.out hh)
 have HH:=hid hh
 have h0:0<h:=HP.out.2.2.2
 clear hh
 rcases Nat.eq_zero_or_pos t with ht0 | ht0
 · have tt:(((len t:Nat):Int)==0)=true:=by rw [ht0];rfl
   have hq:Hid (x+y=0):=by
     have:=HP.out.2.1
     rw [ht0,Nat.zero_div,DA',Rat.zero_mkRat] at this
     exact this.symm
   have hk:=HK8.out.held (An'.refl _)
   clear ht0
   have HD:=hk.done (q:=0) (b:=false) (A1:=none) (n1:=0) (c1:=0) (A2:=none) (n2:=0) (c2:=0) (E8' _)
   obtain ⟨d1,d2,d3⟩:=HD
   obtain ⟨r0,r1,r2⟩:=Ad' d3
   have HD:=hid (And.intro d1 d2)
   clear d1 d2 d3
   go_wp2_with fail
   refine bP (v:=.agg #[.bool (false),.slice (none) (0) (0),.slice (none) (0) (0)]) ?_ rfl ⟨_,rfl,by rw [hq.out];exact HD.out.1,Ak' HB0.out (by omega) HD.out.2⟩
   simp [results,Tryz.results22,go_sem,r0,r1,r2]
 · have tt:(((len t:Nat):Int)==0)=false:=by rw [beq_eq_false_iff_ne];have:=Ak.2 ht0;omega
   have HC4:=hid (BO' hv8 hg7 (nT HT8.out (by decide)) (nT (Am (Nat.le_of_dvd gx (HG.out ▸ Nat.gcd_dvd_left _ _))) (nT HS.out.2.2.1 (by decide))) (.inl ht0))
   clear c0 c1' c2' f0 f1 f2
   go_wp2_with fail
   refine (HC4.out).mono ?_
   rintro e w9 ⟨vh,rfl,hvh,b9⟩
   rw [←HH.out] at hvh
   have ht9:=hv8.keep b9
   have hb9:=hb7.keep b9
   have hd9:=hd7.keep b9
   have HK9:=hid (HK8.out.call b9)
   have HC5:=hid (AN ht9 hvh (nT HT8.out (by decide)) h0)
   clear b9 hv8 hb7 hd7 hg7 HK8 HC4
   go_wp2_with fail
   refine (HC5.out).mono ?_
   rintro e w10 ⟨vt,rfl,hvt,b10⟩
   have hb10:=hb9.keep b10
   have hd10:=hd9.keep b10
   have hh10:=hvh.keep b10
   have HK10:=hid (HK9.out.call b10)
   have HC6:=hid (AN hd10 hh10 (nT HS.out.2.2.2.1 (by decide)) h0)
   clear b10 ht9 hb9 hd9 hvh HK9 HC5
   go_wp2_with fail
   refine (HC6.out).mono ?_
   rintro e w11 ⟨vdh,rfl,hdh,b11⟩
   have hb11:=hb10.keep b11
   have ht11:=hvt.keep b11
   have HK11:=hid (HK10.out.call b11)
   have HC7:=hid (AS hb11 hdh (nT HS.out.2.2.2.2.1 (by decide)) (nT (Am (Nat.div_le_self _ _)) (nT HS.out.2.2.2.1 (by decide))))
   clear b11 hb10 hvt hd10 hh10 HK10 HC6
   go_wp2_with fail
   refine (HC7.out).mono ?_
   rintro e w12 ⟨vp,rfl,hvp,b12⟩
   have ht12:=ht11.keep b12
   have HK12:=hid (HK11.out.call b12)
   have hdpos:0<x.den / g*(y.den / h):=by
     apply Nat.mul_pos
     · exact Nat.div_pos (Nat.le_of_dvd gx (HG.out ▸ Nat.gcd_dvd_left _ _)) g0
     · refine Nat.div_pos (Nat.le_of_dvd gy ?_) h0
       exact Nat.dvd_trans (HH.out ▸ Nat.gcd_dvd_right _ _) (HG.out ▸ Nat.gcd_dvd_right _ _)
   have HC8:=hid (BU (neg:=neg) ht12 hvp hdpos HP.out.1 HP.out.2.1)
   clear b12 ht11 hb11 hdh HK11 HC7 hdpos
   go_wp2_with fail
   refine (HC8.out).mono ?_
   rintro e w13 ⟨v13,rfl,hv13,b13⟩
   obtain ⟨C1,j1,C2,j2,rfl,-,-⟩:=hv13.opened
   have hk:=(HK12.out.call b13).held (An'.refl _)
   clear b13 HK12 HC8
   obtain ⟨-,c0,c1',c2',f0,f1,f2,-⟩:=id hk
   have HD:=hk.done (q:=x+y) (b:=decide ((x+y).num<0)) (A1:=C1) (n1:=len (x+y).num.natAbs) (c1:=j1) (A2:=C2) (n2:=len (below (x+y).den)) (c2:=j2) (hv13)
   obtain ⟨d1,d2,d3⟩:=HD
   obtain ⟨r0,r1,r2⟩:=Ad' d3
   have HD:=hid (And.intro d1 d2)
   clear d1 d2 d3
   go_wp2_with fail
   refine bP (v:=.agg #[.bool (decide ((x+y).num<0)),.slice (C1) (len (x+y).num.natAbs) (j1),.slice (C2) (len (below (x+y).den)) (j2)]) ?_ rfl ⟨_,rfl,HD.out.1,Ak' HB0.out (by omega) HD.out.2⟩
   simp [results,Tryz.results22,go_sem,r0,r1,r2]
theorem F9 {w:World} {vx vy:Value} {x y:Rat} {sy:Bool} (hx:Ac' w vx x) (hy:Bm w vy sy y) (hs:Aa' x≤34359738368) (ht:Aa' y≤34359738368) (hd1:x.den=1) (hd:y.den≠1) :
   Calls Tryz.prog 22 #[vx,vy] w (Az' w (x+y)):=by
 obtain ⟨A1,c1,A2,c2,rfl,hx1,hx2⟩:=hx.opened
 obtain ⟨A3,c3,A4,c4,rfl,hy1,hy2⟩:=hy.opened
 obtain ⟨wB,hwB⟩:=eX (((w.alloc (.cells #[.bool (decide (x.num<0)),.slice A1 (len x.num.natAbs) c1,.slice A2 (len (below x.den)) c2] 35)).alloc (.cells #[.bool (sy),.slice A3 (len y.num.natAbs) c3,.slice A4 (len (below y.den)) c4] 35)).alloc (.cells #[.bool false,.slice none 0 0,.slice none 0 0] 35))
 obtain ⟨b0,gA,gA2,gB⟩:=AC hwB
 obtain ⟨k0,k1,k2⟩:=Ad' gA
 obtain ⟨k3,k4,k5⟩:=Ad' gA2
 have HK0:=hid (Aq'.start (T:=35) rfl (A1' _ _ _ _ _ _ _) gB)
 have HB0:=hid b0
 have hlt1:w.heap.size<w.heap.size+2:=by omega
 have hlt2:w.heap.size+1<w.heap.size+2:=by omega
 clear gA gA2 gB b0
 have HSY:=hid hy.sgn
 have t1:=Be' hd1
 have t2:=BW y.den_pos hd
 clear hd hd1
 have HX:=fun (w':World) (hk:An wB (w.heap.size+2) wB w')=>hid (AD (hx.keep (Ak' HB0.out (by omega) hk.kept.1)))
 have HY:=fun (w':World) (hk:An wB (w.heap.size+2) wB w')=>hid (Ds (hy.keep (Ak' HB0.out (by omega) hk.kept.1)))
 have H0:=HK0.out.begin
 obtain ⟨g,hg⟩:=eX (Nat.gcd x.den y.den)
 have HG:=hid hg
 have HS:=hid (Eu' (g:=g) hs ht)
 have g0:0<g:=hg ▸ Nat.gcd_pos_of_pos_left _ x.den_pos
 have gx:0<x.den:=x.den_pos
 have gy:0<y.den:=y.den_pos
 clear hg hs ht
 go_enter Tryz.func22,Tryz.ntmps22
 go_wp2_with fail
 rw [←hwB]
 clear hwB
 go_region_held3 (fun w'=>(∀ b o,b<w.heap.size+2→w'.cell? ⟨b,o,none⟩=wB.cell? ⟨b,o,none⟩)∧w'.cell? ⟨w.heap.size+2,0,none⟩=some (cur w' ⟨w.heap.size+2,0,none⟩)∧w'.cell? ⟨w.heap.size+2,1,none⟩=some (cur w' ⟨w.heap.size+2,1,none⟩)∧w'.cell? ⟨w.heap.size+2,2,none⟩=some (cur w' ⟨w.heap.size+2,2,none⟩)∧w'.frozen? ⟨w.heap.size+2,0,none⟩=false∧w'.frozen? ⟨w.heap.size+2,1,none⟩=false∧w'.frozen? ⟨w.heap.size+2,2,none⟩=false∧Aq' 3 35 wB (w.heap.size+2) w'∧An' wB w')
   (first | exact H0 | exact hk2 | exact hk1)
   (first | (go_at_call_of 61 (Value.agg #[.bool (decide (x.num<0)),.slice A1 (len x.num.natAbs) c1,.slice A2 (len (below x.den)) c2]);refine ((HX _ ?_).out).mono ?_;assumption;rintro e w1 ⟨vb,rfl,hvb,hbl1⟩;have hk1:=An.call (by assumption) hbl1) | (go_at_call_of 61 (Value.agg #[.bool (sy),.slice A3 (len y.num.natAbs) c3,.slice A4 (len (below y.den)) c4]);refine ((HY _ ?_).out).mono ?_;assumption;rintro e w2 ⟨vd,rfl,hvd,hbl2⟩;have hk2:=An.call (by assumption) hbl2))
 have hb2:=hvb.keep hbl2
 have HK2:=hid hk2.kept
 have HC1:=hid (BO' hb2 hvd (nT HS.out.2.2.1 (by decide)) (nT HS.out.2.2.2.1 (by decide)) (.inl gx))
 clear hk1 hk2 H0 HX HY hbl1 hbl2 hvb
 go_wp2_with fail
 refine (HC1.out).mono ?_
 rintro e w3 ⟨vg,rfl,hvg,b3⟩
 rw [←HG.out] at hvg
 have hb3:=hb2.keep b3
 have hd3:=hvd.keep b3
 have HK3:=hid (HK2.out.call b3)
 have HC2:=hid (AN hb3 hvg (nT HS.out.2.2.1 (by decide)) g0)
 clear b3 hb2 hvd HC1 HK2
 go_wp2_with fail
 refine (HC2.out).mono ?_
 rintro e w4 ⟨vbg,rfl,hbg,b4⟩
 have hd4:=hd3.keep b4
 have hg4:=hvg.keep b4
 have HK4:=hid (HK3.out.call b4)
 have HC3:=hid (AN hd4 hg4 (nT HS.out.2.2.2.1 (by decide)) g0)
 clear b4 hb3 hd3 hvg HK3 HC2
 go_wp2_with fail
 refine (HC3.out).mono ?_
 rintro e w5 ⟨vdg,rfl,hdg,b5⟩
 have hd5:=hd4.keep b5
 have hg5:=hg4.keep b5
 have hbg5:=hbg.keep b5
 have HK5:=hid (HK4.out.call b5)
 have H5:=HK5.out.begin
 have hx5:=hx1.keep (Ak' HB0.out (by omega) HK5.out.1)
 have hy5:=hy1.keep (Ak' HB0.out (by omega) HK5.out.1)
 have HM1:=fun (w':World) (hk:An wB (w.heap.size+2) w5 w')=>hid (AS (hk.stay _ _ hx5) (hk.stay _ _ hdg) (nT HS.out.1 (by decide)) (nT HS.out.2.2.2.2.2 (by decide)))
 have HM2:=fun (w':World) (hk:An wB (w.heap.size+2) w5 w')=>hid (AS (hk.stay _ _ hy5) (hk.stay _ _ hbg5) (nT HS.out.2.1 (by decide)) (nT HS.out.2.2.2.2.1 (by decide)))
 have HB1:Hid (len (x.num.natAbs*(y.den / g))≤8796093022208):=nT (At' _ _) (nT (Nat.add_le_add HS.out.1 HS.out.2.2.2.2.2) (by decide))
 have HB2:Hid (len (y.num.natAbs*(x.den / g))≤8796093022208):=nT (At' _ _) (nT (Nat.add_le_add HS.out.2.1 HS.out.2.2.2.2.1) (by decide))
 clear b5 hd4 hg4 hbg HK4 HC3 hdg
 go_wp2_with fail
 go_region_held3 (fun w'=>(∀ b o,b<w.heap.size+2→w'.cell? ⟨b,o,none⟩=wB.cell? ⟨b,o,none⟩)∧w'.cell? ⟨w.heap.size+2,0,none⟩=some (cur w' ⟨w.heap.size+2,0,none⟩)∧w'.cell? ⟨w.heap.size+2,1,none⟩=some (cur w' ⟨w.heap.size+2,1,none⟩)∧w'.cell? ⟨w.heap.size+2,2,none⟩=some (cur w' ⟨w.heap.size+2,2,none⟩)∧w'.frozen? ⟨w.heap.size+2,0,none⟩=false∧w'.frozen? ⟨w.heap.size+2,1,none⟩=false∧w'.frozen? ⟨w.heap.size+2,2,none⟩=false∧Aq' 3 35 wB (w.heap.size+2) w'∧An' w5 w')
   (first | exact H5 | exact hk8 | exact hk7 | exact hk6)
   (first | (go_at_call_of 64 (Value.slice A1 (len x.num.natAbs) c1);refine ((HM1 _ ?_).out).mono ?_;assumption;rintro e w6 ⟨v6,rfl,hv6,hbl6⟩;obtain ⟨B6,e6,rfl,-⟩:=id hv6;have hk6:=An.call (by assumption) hbl6) | (go_at_call_of 64 (Value.slice A3 (len y.num.natAbs) c3);refine ((HM2 _ ?_).out).mono ?_;assumption;rintro e w7 ⟨v7,rfl,hv7,hbl7⟩;obtain ⟨B7,e7,rfl,-⟩:=id hv7;have hk7:=An.call (by assumption) hbl7) | (go_at_call 59;refine (Cn (hv6.keep hbl7) hv7 HB1.out HB2.out).mono ?_;rintro e w8 ⟨neg,t,v8,rfl,hv8,hz8,hbl8⟩;obtain ⟨B8,e8,rfl,-⟩:=id hv8;have hk8:=An.call (by assumption) hbl8))
 rename_i hHl
 clear hHl
 have hz:sgn neg t=x.num*(y.den / g:Nat)+y.num*(x.den / g:Nat):=by rw [hz8,CU',CU',Bx,HSY.out]
 have HZ:=hid hz
 have hb7:=hk8.stay _ _ hbg5
 have hd7:=hk8.stay _ _ hd5
 have hg7:=hk8.stay _ _ hg5
 have HK8:=hid hk8.kept
 obtain ⟨-,c0,c1',c2',f0,f1,f2,-⟩:=id (hk8.kept.held (An'.refl _))
 have hlt8:len t≤68719476737:=Ds' (a:=x.num.natAbs) (b:=y.num.natAbs) (c:=x.den / g) (d:=y.den / g) hz (by
   refine nT (Int.natAbs_add_le _ _) ?_
   rw [Int.natAbs_mul,Int.natAbs_mul];exact nL _) HS.out.1 HS.out.2.1 HS.out.2.2.2.2.1 HS.out.2.2.2.2.2
 have HT8:=hid hlt8
 clear hz hz8 hlt8 HM1 HM2 hk6 hk7 hk8 hbl6 hbl7 hbl8 hv6 hv7 HB1 HB2 hx5 hy5 hbg5 hd5 hg5 H5 HK5
 obtain ⟨h,hh⟩:=eX (Nat.gcd t g)
 have HP:=hid (Et HG.out HZ.out hh)
 have HH:=hid hh
 have h0:0<h:=HP.out.2.2.2
 clear hh
 rcases Nat.eq_zero_or_pos t with ht0 | ht0
 · have tt:(((len t:Nat):Int)==0)=true:=by rw [ht0];rfl
   have hq:Hid (x+y=0):=by
     have:=HP.out.2.1
     rw [ht0,Nat.zero_div,DA',Rat.zero_mkRat] at this
     exact this.symm
   have hk:=HK8.out.held (An'.refl _)
   clear ht0
   have HD:=hk.done (q:=0) (b:=false) (A1:=none) (n1:=0) (c1:=0) (A2:=none) (n2:=0) (c2:=0) (E8' _)
   obtain ⟨d1,d2,d3⟩:=HD
   obtain ⟨r0,r1,r2⟩:=Ad' d3
   have HD:=hid (And.intro d1 d2)
   clear d1 d2 d3
   go_wp2_with fail
   refine bP (v:=.agg #[.bool (false),.slice (none) (0) (0),.slice (none) (0) (0)]) ?_ rfl ⟨_,rfl,by rw [hq.out];exact HD.out.1,Ak' HB0.out (by omega) HD.out.2⟩
   simp [results,Tryz.results22,go_sem,r0,r1,r2]
 · have tt:(((len t:Nat):Int)==0)=false:=by rw [beq_eq_false_iff_ne];have:=Ak.2 ht0;omega
   have HC4:=hid (BO' hv8 hg7 (nT HT8.out (by decide)) (nT (Am (Nat.le_of_dvd gx (HG.out ▸ Nat.gcd_dvd_left _ _))) (nT HS.out.2.2.1 (by decide))) (.inl ht0))
   clear c0 c1' c2' f0 f1 f2
   go_wp2_with fail
   refine (HC4.out).mono ?_
   rintro e w9 ⟨vh,rfl,hvh,b9⟩
   rw [←HH.out] at hvh
   have ht9:=hv8.keep b9
   have hb9:=hb7.keep b9
   have hd9:=hd7.keep b9
   have HK9:=hid (HK8.out.call b9)
   have HC5:=hid (AN ht9 hvh (nT HT8.out (by decide)) h0)
   clear b9 hv8 hb7 hd7 hg7 HK8 HC4
   go_wp2_with fail
   refine (HC5.out).mono ?_
   rintro e w10 ⟨vt,rfl,hvt,b10⟩
   have hb10:=hb9.keep b10
   have hd10:=hd9.keep b10
   have hh10:=hvh.keep b10
   have HK10:=hid (HK9.out.call b10)
   have HC6:=hid (AN hd10 hh10 (nT HS.out.2.2.2.1 (by decide)) h0)
   clear b10 ht9 hb9 hd9 hvh HK9 HC5
   go_wp2_with fail
   refine (HC6.out).mono ?_
   rintro e w11 ⟨vdh,rfl,hdh,b11⟩
   have hb11:=hb10.keep b11
   have ht11:=hvt.keep b11
   have HK11:=hid (HK10.out.call b11)
   have HC7:=hid (AS hb11 hdh (nT HS.out.2.2.2.2.1 (by decide)) (nT (Am (Nat.div_le_self _ _)) (nT HS.out.2.2.2.1 (by decide))))
   clear b11 hb10 hvt hd10 hh10 HK10 HC6
   go_wp2_with fail
   refine (HC7.out).mono ?_
   rintro e w12 ⟨vp,rfl,hvp,b12⟩
   have ht12:=ht11.keep b12
   have HK12:=hid (HK11.out.call b12)
   have hdpos:0<x.den / g*(y.den / h):=by
     apply Nat.mul_pos
     · exact Nat.div_pos (Nat.le_of_dvd gx (HG.out ▸ Nat.gcd_dvd_left _ _)) g0
     · refine Nat.div_pos (Nat.le_of_dvd gy ?_) h0
       exact Nat.dvd_trans (HH.out ▸ Nat.gcd_dvd_right _ _) (HG.out ▸ Nat.gcd_dvd_right _ _)
   have HC8:=hid (BU (neg:=neg) ht12 hvp hdpos HP.out.1 HP.out.2.1)
   clear b12 ht11 hb11 hdh HK11 HC7 hdpos
   go_wp2_with fail
   refine (HC8.out).mono ?_
   rintro e w13 ⟨v13,rfl,hv13,b13⟩
   obtain ⟨C1,j1,C2,j2,rfl,-,-⟩:=hv13.opened
   have hk:=(HK12.out.call b13).held (An'.refl _)
   clear b13 HK12 HC8
   obtain ⟨-,c0,c1',c2',f0,f1,f2,-⟩:=id hk
   have HD:=hk.done (q:=x+y) (b:=decide ((x+y).num<0)) (A1:=C1) (n1:=len (x+y).num.natAbs) (c1:=j1) (A2:=C2) (n2:=len (below (x+y).den)) (c2:=j2) (hv13)
   obtain ⟨d1,d2,d3⟩:=HD
   obtain ⟨r0,r1,r2⟩:=Ad' d3
   have HD:=hid (And.intro d1 d2)
   clear d1 d2 d3
   go_wp2_with fail
   refine bP (v:=.agg #[.bool (decide ((x+y).num<0)),.slice (C1) (len (x+y).num.natAbs) (j1),.slice (C2) (len (below (x+y).den)) (j2)]) ?_ rfl ⟨_,rfl,HD.out.1,Ak' HB0.out (by omega) HD.out.2⟩
   simp [results,Tryz.results22,go_sem,r0,r1,r2]
theorem Dt {w:World} {vx vy:Value} {x y:Rat} {sy:Bool} (hx:Ac' w vx x) (hy:Bm w vy sy y) (hs:Aa' x≤34359738368) (ht:Aa' y≤34359738368) :
   Calls Tryz.prog 22 #[vx,vy] w (Az' w (x+y)):=by
 by_cases h1:x.den=1
 · by_cases h2:y.den=1
   · exact Ir' hx hy (by omega) (by omega) h1 h2
   · exact F9 hx hy hs ht h1 h2
 · exact F8' hx hy hs ht h1
theorem F9' {w:World} {vx vy:Value} {x y:Rat} (hx:Ac' w vx x) (hy:Ac' w vy y) (hs:Aa' x≤34359738368) (ht:Aa' y≤34359738368) :
   Calls Tryz.prog 22 #[vx,vy] w (Az' w (x+y)):=Dt hx hy.anySign hs ht
theorem Is {w:World} {vx vy:Value} {x y:Rat} (hx:Ac' w vx x) (hy:Ac' w vy y) (hs:Aa' x≤34359738368) (ht:Aa' y≤34359738368) (hdx:x.den=1) (hdy:y.den=1) :
   Calls Tryz.prog 25 #[vx,vy] w (Az' w (x*y)):=by
 obtain ⟨A1,c1,A2,c2,rfl,hx1,hx2⟩:=hx.opened
 obtain ⟨A3,c3,A4,c4,rfl,hy1,hy2⟩:=hy.opened
 obtain ⟨wB,hwB⟩:=eX (((w.alloc (.cells #[.bool (decide (x.num<0)),.slice A1 (len x.num.natAbs) c1,.slice A2 (len (below x.den)) c2] 35)).alloc (.cells #[.bool (decide (y.num<0)),.slice A3 (len y.num.natAbs) c3,.slice A4 (len (below y.den)) c4] 35)).alloc (.cells #[.bool false,.slice none 0 0,.slice none 0 0] 35))
 obtain ⟨b0,gA,gA2,gB⟩:=AC hwB
 obtain ⟨k0,k1,k2⟩:=Ad' gA
 obtain ⟨k3,k4,k5⟩:=Ad' gA2
 have HK0:=hid (Aq'.start (T:=35) rfl (A1' _ _ _ _ _ _ _) gB)
 have HB0:=hid b0
 have hlt1:w.heap.size<w.heap.size+2:=by omega
 have hlt2:w.heap.size+1<w.heap.size+2:=by omega
 clear gA gA2 gB b0
 have t1:=Be' hdx
 have t2:=Be' hdy
 have hl1:=Ai x
 have hl2:=Ai y
 have HX:=fun (w':World) (hk:Below w.heap.size w w')=>hid (AS (hx1.keep hk) (hy1.keep hk) (nT hl1 (nT hs (by decide))) (nT hl2 (nT ht (by decide))))
 have HE:=hid (Hu hdx hdy)
 clear hdx hdy hl1 hl2
 go_enter Tryz.func25,Tryz.ntmps25
 go_wp2_with fail
 rw [←hwB]
 clear hwB
 refine ((HX _ HB0.out).out).mono ?_
 rintro e w1 ⟨v,rfl,hv,b1⟩
 have HF:=hid (Dd (neg:=decide (x.num<0) != decide (y.num<0)) (q:=x*y) hv (by rw [CN',Bx,Bx];exact HE.out))
 have HK1:=hid (HK0.out.call b1)
 go_wp2_with fail
 refine (HF.out).mono ?_
 rintro e w2 ⟨v2,rfl,hv2,b2⟩
 obtain ⟨B1,e1,B2,e2,rfl,-,-⟩:=hv2.opened
 have hk:=(HK1.out.call b2).held (An'.refl _)
 obtain ⟨-,c0,c1,c2,f0,f1,f2,-⟩:=id hk
 have HD:=hk.done (q:=x*y) (b:=decide ((x*y).num<0)) (A1:=B1) (n1:=len (x*y).num.natAbs) (c1:=e1) (A2:=B2) (n2:=len (below (x*y).den)) (c2:=e2) (hv2)
 obtain ⟨d1,d2,d3⟩:=HD
 obtain ⟨r0,r1,r2⟩:=Ad' d3
 have HD:=hid (And.intro d1 d2)
 clear d1 d2 d3
 go_wp2_with fail
 refine bP (v:=.agg #[.bool (decide ((x*y).num<0)),.slice (B1) (len (x*y).num.natAbs) (e1),.slice (B2) (len (below (x*y).den)) (e2)]) ?_ rfl ⟨_,rfl,HD.out.1,Ak' HB0.out (by omega) HD.out.2⟩
 simp [results,Tryz.results25,go_sem,r0,r1,r2]
theorem Ev' {x y:Rat} {g h:Nat} (hs:Aa' x≤34359738368) (ht:Aa' y≤34359738368) :
   len x.num.natAbs≤34359738368∧len y.num.natAbs≤34359738368∧len x.den≤34359738368∧len y.den≤34359738368∧len (x.num.natAbs / g)≤34359738368∧len (y.num.natAbs / h)≤34359738368∧len (x.den / h)≤34359738368∧len (y.den / g)≤34359738368:=by
 have:=Ai x;have:=Ai y;have:=Ai' x;have:=Ai' y
 have:=Am (Nat.div_le_self x.den h);have:=Am (Nat.div_le_self y.den g)
 have:=Am (Nat.div_le_self x.num.natAbs g);have:=Am (Nat.div_le_self y.num.natAbs h)
 omega
theorem Ga {w:World} {vx vy:Value} {x y:Rat} (hx:Ac' w vx x) (hy:Ac' w vy y) (hs:Aa' x≤34359738368) (ht:Aa' y≤34359738368) (hd:x.den≠1) :
   Calls Tryz.prog 25 #[vx,vy] w (Az' w (x*y)):=by
 obtain ⟨A1,c1,A2,c2,rfl,hx1,hx2⟩:=hx.opened
 obtain ⟨A3,c3,A4,c4,rfl,hy1,hy2⟩:=hy.opened
 obtain ⟨wB,hwB⟩:=eX (((w.alloc (.cells #[.bool (decide (x.num<0)),.slice A1 (len x.num.natAbs) c1,.slice A2 (len (below x.den)) c2] 35)).alloc (.cells #[.bool (decide (y.num<0)),.slice A3 (len y.num.natAbs) c3,.slice A4 (len (below y.den)) c4] 35)).alloc (.cells #[.bool false,.slice none 0 0,.slice none 0 0] 35))
 obtain ⟨b0,gA,gA2,gB⟩:=AC hwB
 obtain ⟨k0,k1,k2⟩:=Ad' gA
 obtain ⟨k3,k4,k5⟩:=Ad' gA2
 have HK0:=hid (Aq'.start (T:=35) rfl (A1' _ _ _ _ _ _ _) gB)
 have HB0:=hid b0
 have hlt1:w.heap.size<w.heap.size+2:=by omega
 have hlt2:w.heap.size+1<w.heap.size+2:=by omega
 clear gA gA2 gB b0
 have t1:=BW x.den_pos hd
 clear hd
 have HX:=fun (w':World) (hk:An wB (w.heap.size+2) wB w')=>hid (AD (hx.keep (Ak' HB0.out (by omega) hk.kept.1)))
 have HY:=fun (w':World) (hk:An wB (w.heap.size+2) wB w')=>hid (AD (hy.keep (Ak' HB0.out (by omega) hk.kept.1)))
 have H0:=HK0.out.begin
 obtain ⟨g,hg⟩:=eX (Nat.gcd x.num.natAbs y.den)
 obtain ⟨h,hh⟩:=eX (Nat.gcd y.num.natAbs x.den)
 have HG:=hid hg
 have HH:=hid hh
 have HP:=hid (Et' hg hh)
 have HS:=hid (Ev' (g:=g) (h:=h) hs ht)
 have g0:0<g:=HP.out.2.2.1
 have h0:0<h:=HP.out.2.2.2
 have gx:0<x.den:=x.den_pos
 have gy:0<y.den:=y.den_pos
 clear hg hh hs ht
 go_enter Tryz.func25,Tryz.ntmps25
 go_wp2_with fail
 rw [←hwB]
 clear hwB
 go_region_held3 (fun w'=>(∀ b o,b<w.heap.size+2→w'.cell? ⟨b,o,none⟩=wB.cell? ⟨b,o,none⟩)∧w'.cell? ⟨w.heap.size+2,0,none⟩=some (cur w' ⟨w.heap.size+2,0,none⟩)∧w'.cell? ⟨w.heap.size+2,1,none⟩=some (cur w' ⟨w.heap.size+2,1,none⟩)∧w'.cell? ⟨w.heap.size+2,2,none⟩=some (cur w' ⟨w.heap.size+2,2,none⟩)∧w'.frozen? ⟨w.heap.size+2,0,none⟩=false∧w'.frozen? ⟨w.heap.size+2,1,none⟩=false∧w'.frozen? ⟨w.heap.size+2,2,none⟩=false∧Aq' 3 35 wB (w.heap.size+2) w'∧An' wB w')
   (first | exact H0 | exact hk2 | exact hk1)
   (first | (go_at_call_of 61 (Value.agg #[.bool (decide (x.num<0)),.slice A1 (len x.num.natAbs) c1,.slice A2 (len (below x.den)) c2]);refine ((HX _ ?_).out).mono ?_;assumption;rintro e w1 ⟨vb,rfl,hvb,hbl1⟩;have hk1:=An.call (by assumption) hbl1) | (go_at_call_of 61 (Value.agg #[.bool (decide (y.num<0)),.slice A3 (len y.num.natAbs) c3,.slice A4 (len (below y.den)) c4]);refine ((HY _ ?_).out).mono ?_;assumption;rintro e w2 ⟨vd,rfl,hvd,hbl2⟩;have hk2:=An.call (by assumption) hbl2))
 rename_i hHl
 clear hHl
 have hb2:=hvb.keep hbl2
 have HK2:=hid hk2.kept
 have H2:=HK2.out.begin
 have hx2':=hx1.keep (Ak' HB0.out (by omega) HK2.out.1)
 have hy2':=hy1.keep (Ak' HB0.out (by omega) HK2.out.1)
 have HC1:=fun (w':World) (hk:An wB (w.heap.size+2) w2 w')=>hid (BO' (hk.stay _ _ hx2') (hk.stay _ _ hvd) (nT HS.out.1 (by decide)) (nT HS.out.2.2.2.1 (by decide)) (.inr gy))
 have HC2:=fun (w':World) (hk:An wB (w.heap.size+2) w2 w')=>hid (BO' (hk.stay _ _ hy2') (hk.stay _ _ hb2) (nT HS.out.2.1 (by decide)) (nT HS.out.2.2.1 (by decide)) (.inr gx))
 clear hk1 hk2 H0 HX HY hbl1 hbl2 hvb
 go_wp2_with fail
 go_region_held3 (fun w'=>(∀ b o,b<w.heap.size+2→w'.cell? ⟨b,o,none⟩=wB.cell? ⟨b,o,none⟩)∧w'.cell? ⟨w.heap.size+2,0,none⟩=some (cur w' ⟨w.heap.size+2,0,none⟩)∧w'.cell? ⟨w.heap.size+2,1,none⟩=some (cur w' ⟨w.heap.size+2,1,none⟩)∧w'.cell? ⟨w.heap.size+2,2,none⟩=some (cur w' ⟨w.heap.size+2,2,none⟩)∧w'.frozen? ⟨w.heap.size+2,0,none⟩=false∧w'.frozen? ⟨w.heap.size+2,1,none⟩=false∧w'.frozen? ⟨w.heap.size+2,2,none⟩=false∧Aq' 3 35 wB (w.heap.size+2) w'∧An' w2 w')
   (first | exact H2 | exact hk4 | exact hk3)
   (first | (go_at_call_of 62 (Value.slice A1 (len x.num.natAbs) c1);refine ((HC1 _ ?_).out).mono ?_;assumption;rintro e w3 ⟨vg,rfl,hvg,hbl3⟩;have hk3:=An.call (by assumption) hbl3) | (go_at_call_of 62 (Value.slice A3 (len y.num.natAbs) c3);refine ((HC2 _ ?_).out).mono ?_;assumption;rintro e w4 ⟨vh,rfl,hvh,hbl4⟩;have hk4:=An.call (by assumption) hbl4))
 rename_i hHl
 clear hHl
 have hg4:=hvg.keep hbl4
 rw [←HG.out] at hg4
 rw [←HH.out] at hvh
 have hb4:=hk4.stay _ _ hb2
 have hd4:=hk4.stay _ _ hvd
 have hx4:=hk4.stay _ _ hx2'
 have hy4:=hk4.stay _ _ hy2'
 have HK4:=hid hk4.kept
 have H4:=HK4.out.begin
 clear hk3 hk4 hbl3 hbl4 hvg hb2 hvd hx2' hy2' H2 HC1 HC2 HK2
 have HC1:=fun (w':World) (hk:An wB (w.heap.size+2) w4 w')=>hid (AN (hk.stay _ _ hx4) (hk.stay _ _ hg4) (nT HS.out.1 (by decide)) g0)
 have HC2:=fun (w':World) (hk:An wB (w.heap.size+2) w4 w')=>hid (AN (hk.stay _ _ hy4) (hk.stay _ _ hvh) (nT HS.out.2.1 (by decide)) h0)
 have HC4:=fun (w':World) (hk:An wB (w.heap.size+2) w4 w')=>hid (AN (hk.stay _ _ hb4) (hk.stay _ _ hvh) (nT HS.out.2.2.1 (by decide)) h0)
 have HC5:=fun (w':World) (hk:An wB (w.heap.size+2) w4 w')=>hid (AN (hk.stay _ _ hd4) (hk.stay _ _ hg4) (nT HS.out.2.2.2.1 (by decide)) g0)
 have hdpos:0<x.den / h*(y.den / g):=by
   apply Nat.mul_pos
   · exact Nat.div_pos (Nat.le_of_dvd gx (HH.out ▸ Nat.gcd_dvd_right _ _)) h0
   · exact Nat.div_pos (Nat.le_of_dvd gy (HG.out ▸ Nat.gcd_dvd_right _ _)) g0
 go_wp2_with fail
 go_region_held3 (fun w'=>(∀ b o,b<w.heap.size+2→w'.cell? ⟨b,o,none⟩=wB.cell? ⟨b,o,none⟩)∧w'.cell? ⟨w.heap.size+2,0,none⟩=some (cur w' ⟨w.heap.size+2,0,none⟩)∧w'.cell? ⟨w.heap.size+2,1,none⟩=some (cur w' ⟨w.heap.size+2,1,none⟩)∧w'.cell? ⟨w.heap.size+2,2,none⟩=some (cur w' ⟨w.heap.size+2,2,none⟩)∧w'.frozen? ⟨w.heap.size+2,0,none⟩=false∧w'.frozen? ⟨w.heap.size+2,1,none⟩=false∧w'.frozen? ⟨w.heap.size+2,2,none⟩=false∧Aq' 3 35 wB (w.heap.size+2) w'∧An' w4 w')
   (first | exact H4 | exact hk11.store | exact hk11 | exact hk10 | exact hk9 | exact hk8 | exact hk7 | exact hk6 | exact hk5)
   (first | (go_at_call_of 63 (Value.slice A1 (len x.num.natAbs) c1);refine ((HC1 _ ?_).out).mono ?_;assumption;rintro e w5 ⟨v5,rfl,hv5,hbl5⟩;obtain ⟨B5,e5,rfl,-⟩:=id hv5;have hk5:=An.call (by assumption) hbl5) | (go_at_call_of 63 (Value.slice A3 (len y.num.natAbs) c3);refine ((HC2 _ ?_).out).mono ?_;assumption;rintro e w6 ⟨v6,rfl,hv6,hbl6⟩;obtain ⟨B6,e6,rfl,-⟩:=id hv6;have hk6:=An.call (by assumption) hbl6) | (go_at_call_of 64 (Value.slice B5 (len (x.num.natAbs / g)) e5);refine (AS (hv5.keep hbl6) hv6 (nT HS.out.2.2.2.2.1 (by decide)) (nT HS.out.2.2.2.2.2.1 (by decide))).mono ?_;rintro e w7 ⟨v7,rfl,hv7,hbl7⟩;obtain ⟨B7,e7,rfl,-⟩:=id hv7;have hk7:=An.call (by assumption) hbl7) | (go_at_call_of 63 vb;refine ((HC4 _ ?_).out).mono ?_;assumption;rintro e w8 ⟨v8,rfl,hv8,hbl8⟩;obtain ⟨B8,e8,rfl,-⟩:=id hv8;have hk8:=An.call (by assumption) hbl8) | (go_at_call_of 63 vd;refine ((HC5 _ ?_).out).mono ?_;assumption;rintro e w9 ⟨v9,rfl,hv9,hbl9⟩;obtain ⟨B9,e9,rfl,-⟩:=id hv9;have hk9:=An.call (by assumption) hbl9) | (go_at_call_of 64 (Value.slice B8 (len (x.den / h)) e8);refine (AS (hv8.keep hbl9) hv9 (nT HS.out.2.2.2.2.2.2.1 (by decide)) (nT HS.out.2.2.2.2.2.2.2 (by decide))).mono ?_;rintro e w10 ⟨v10,rfl,hv10,hbl10⟩;obtain ⟨B10,e10,rfl,-⟩:=id hv10;have hk10:=An.call (by assumption) hbl10) | (go_at_call 60;refine (BU ((((hv7.keep hbl8).keep hbl9).keep hbl10)) hv10 hdpos HP.out.1 HP.out.2.1).mono ?_;rintro e w11 ⟨v11,rfl,hv11,hbl11⟩;obtain ⟨C1,j1,C2,j2,rfl,-,-⟩:=hv11.opened;have hk11:=An.call (by assumption) hbl11))
 rename_i hHl
 clear hHl
 have HD:=hk11.done (q:=x*y) (b:=decide ((x*y).num<0)) (A1:=C1) (n1:=len (x*y).num.natAbs) (c1:=j1) (A2:=C2) (n2:=len (below (x*y).den)) (c2:=j2) (hv11)
 obtain ⟨d1,d2,d3⟩:=HD
 obtain ⟨r0,r1,r2⟩:=Ad' d3
 have HD:=hid (And.intro d1 d2)
 clear d1 d2 d3
 go_wp2_with fail
 refine bP (v:=.agg #[.bool (decide ((x*y).num<0)),.slice (C1) (len (x*y).num.natAbs) (j1),.slice (C2) (len (below (x*y).den)) (j2)]) ?_ rfl ⟨_,rfl,HD.out.1,Ak' HB0.out (by omega) HD.out.2⟩
 simp [results,Tryz.results25,go_sem,r0,r1,r2]
theorem Ga' {w:World} {vx vy:Value} {x y:Rat} (hx:Ac' w vx x) (hy:Ac' w vy y) (hs:Aa' x≤34359738368) (ht:Aa' y≤34359738368) (hd1:x.den=1) (hd:y.den≠1) :
   Calls Tryz.prog 25 #[vx,vy] w (Az' w (x*y)):=by
 obtain ⟨A1,c1,A2,c2,rfl,hx1,hx2⟩:=hx.opened
 obtain ⟨A3,c3,A4,c4,rfl,hy1,hy2⟩:=hy.opened
 obtain ⟨wB,hwB⟩:=eX (((w.alloc (.cells #[.bool (decide (x.num<0)),.slice A1 (len x.num.natAbs) c1,.slice A2 (len (below x.den)) c2] 35)).alloc (.cells #[.bool (decide (y.num<0)),.slice A3 (len y.num.natAbs) c3,.slice A4 (len (below y.den)) c4] 35)).alloc (.cells #[.bool false,.slice none 0 0,.slice none 0 0] 35))
 obtain ⟨b0,gA,gA2,gB⟩:=AC hwB
 obtain ⟨k0,k1,k2⟩:=Ad' gA
 obtain ⟨k3,k4,k5⟩:=Ad' gA2
 have HK0:=hid (Aq'.start (T:=35) rfl (A1' _ _ _ _ _ _ _) gB)
 have HB0:=hid b0
 have hlt1:w.heap.size<w.heap.size+2:=by omega
 have hlt2:w.heap.size+1<w.heap.size+2:=by omega
 clear gA gA2 gB b0
 have t1:=Be' hd1
 have t2:=BW y.den_pos hd
 clear hd hd1
 have HX:=fun (w':World) (hk:An wB (w.heap.size+2) wB w')=>hid (AD (hx.keep (Ak' HB0.out (by omega) hk.kept.1)))
 have HY:=fun (w':World) (hk:An wB (w.heap.size+2) wB w')=>hid (AD (hy.keep (Ak' HB0.out (by omega) hk.kept.1)))
 have H0:=HK0.out.begin
 obtain ⟨g,hg⟩:=eX (Nat.gcd x.num.natAbs y.den)
 obtain ⟨h,hh⟩:=eX (Nat.gcd y.num.natAbs x.den)
 have HG:=hid hg
 have HH:=hid hh
 have HP:=hid (Et' hg hh)
 have HS:=hid (Ev' (g:=g) (h:=h) hs ht)
 have g0:0<g:=HP.out.2.2.1
 have h0:0<h:=HP.out.2.2.2
 have gx:0<x.den:=x.den_pos
 have gy:0<y.den:=y.den_pos
 clear hg hh hs ht
 go_enter Tryz.func25,Tryz.ntmps25
 go_wp2_with fail
 rw [←hwB]
 clear hwB
 go_region_held3 (fun w'=>(∀ b o,b<w.heap.size+2→w'.cell? ⟨b,o,none⟩=wB.cell? ⟨b,o,none⟩)∧w'.cell? ⟨w.heap.size+2,0,none⟩=some (cur w' ⟨w.heap.size+2,0,none⟩)∧w'.cell? ⟨w.heap.size+2,1,none⟩=some (cur w' ⟨w.heap.size+2,1,none⟩)∧w'.cell? ⟨w.heap.size+2,2,none⟩=some (cur w' ⟨w.heap.size+2,2,none⟩)∧w'.frozen? ⟨w.heap.size+2,0,none⟩=false∧w'.frozen? ⟨w.heap.size+2,1,none⟩=false∧w'.frozen? ⟨w.heap.size+2,2,none⟩=false∧Aq' 3 35 wB (w.heap.size+2) w'∧An' wB w')
   (first | exact H0 | exact hk2 | exact hk1)
   (first | (go_at_call_of 61 (Value.agg #[.bool (decide (x.num<0)),.slice A1 (len x.num.natAbs) c1,.slice A2 (len (below x.den)) c2]);refine ((HX _ ?_).out).mono ?_;assumption;rintro e w1 ⟨vb,rfl,hvb,hbl1⟩;have hk1:=An.call (by assumption) hbl1) | (go_at_call_of 61 (Value.agg #[.bool (decide (y.num<0)),.slice A3 (len y.num.natAbs) c3,.slice A4 (len (below y.den)) c4]);refine ((HY _ ?_).out).mono ?_;assumption;rintro e w2 ⟨vd,rfl,hvd,hbl2⟩;have hk2:=An.call (by assumption) hbl2))
 rename_i hHl
 clear hHl
 have hb2:=hvb.keep hbl2
 have HK2:=hid hk2.kept
 have H2:=HK2.out.begin
 have hx2':=hx1.keep (Ak' HB0.out (by omega) HK2.out.1)
 have hy2':=hy1.keep (Ak' HB0.out (by omega) HK2.out.1)
 have HC1:=fun (w':World) (hk:An wB (w.heap.size+2) w2 w')=>hid (BO' (hk.stay _ _ hx2') (hk.stay _ _ hvd) (nT HS.out.1 (by decide)) (nT HS.out.2.2.2.1 (by decide)) (.inr gy))
 have HC2:=fun (w':World) (hk:An wB (w.heap.size+2) w2 w')=>hid (BO' (hk.stay _ _ hy2') (hk.stay _ _ hb2) (nT HS.out.2.1 (by decide)) (nT HS.out.2.2.1 (by decide)) (.inr gx))
 clear hk1 hk2 H0 HX HY hbl1 hbl2 hvb
 go_wp2_with fail
 go_region_held3 (fun w'=>(∀ b o,b<w.heap.size+2→w'.cell? ⟨b,o,none⟩=wB.cell? ⟨b,o,none⟩)∧w'.cell? ⟨w.heap.size+2,0,none⟩=some (cur w' ⟨w.heap.size+2,0,none⟩)∧w'.cell? ⟨w.heap.size+2,1,none⟩=some (cur w' ⟨w.heap.size+2,1,none⟩)∧w'.cell? ⟨w.heap.size+2,2,none⟩=some (cur w' ⟨w.heap.size+2,2,none⟩)∧w'.frozen? ⟨w.heap.size+2,0,none⟩=false∧w'.frozen? ⟨w.heap.size+2,1,none⟩=false∧w'.frozen? ⟨w.heap.size+2,2,none⟩=false∧Aq' 3 35 wB (w.heap.size+2) w'∧An' w2 w')
   (first | exact H2 | exact hk4 | exact hk3)
   (first | (go_at_call_of 62 (Value.slice A1 (len x.num.natAbs) c1);refine ((HC1 _ ?_).out).mono ?_;assumption;rintro e w3 ⟨vg,rfl,hvg,hbl3⟩;have hk3:=An.call (by assumption) hbl3) | (go_at_call_of 62 (Value.slice A3 (len y.num.natAbs) c3);refine ((HC2 _ ?_).out).mono ?_;assumption;rintro e w4 ⟨vh,rfl,hvh,hbl4⟩;have hk4:=An.call (by assumption) hbl4))
 rename_i hHl
 clear hHl
 have hg4:=hvg.keep hbl4
 rw [←HG.out] at hg4
 rw [←HH.out] at hvh
 have hb4:=hk4.stay _ _ hb2
 have hd4:=hk4.stay _ _ hvd
 have hx4:=hk4.stay _ _ hx2'
 have hy4:=hk4.stay _ _ hy2'
 have HK4:=hid hk4.kept
 have H4:=HK4.out.begin
 clear hk3 hk4 hbl3 hbl4 hvg hb2 hvd hx2' hy2' H2 HC1 HC2 HK2
 have HC1:=fun (w':World) (hk:An wB (w.heap.size+2) w4 w')=>hid (AN (hk.stay _ _ hx4) (hk.stay _ _ hg4) (nT HS.out.1 (by decide)) g0)
 have HC2:=fun (w':World) (hk:An wB (w.heap.size+2) w4 w')=>hid (AN (hk.stay _ _ hy4) (hk.stay _ _ hvh) (nT HS.out.2.1 (by decide)) h0)
 have HC4:=fun (w':World) (hk:An wB (w.heap.size+2) w4 w')=>hid (AN (hk.stay _ _ hb4) (hk.stay _ _ hvh) (nT HS.out.2.2.1 (by decide)) h0)
 have HC5:=fun (w':World) (hk:An wB (w.heap.size+2) w4 w')=>hid (AN (hk.stay _ _ hd4) (hk.stay _ _ hg4) (nT HS.out.2.2.2.1 (by decide)) g0)
 have hdpos:0<x.den / h*(y.den / g):=by
   apply Nat.mul_pos
   · exact Nat.div_pos (Nat.le_of_dvd gx (HH.out ▸ Nat.gcd_dvd_right _ _)) h0
   · exact Nat.div_pos (Nat.le_of_dvd gy (HG.out ▸ Nat.gcd_dvd_right _ _)) g0
 go_wp2_with fail
 go_region_held3 (fun w'=>(∀ b o,b<w.heap.size+2→w'.cell? ⟨b,o,none⟩=wB.cell? ⟨b,o,none⟩)∧w'.cell? ⟨w.heap.size+2,0,none⟩=some (cur w' ⟨w.heap.size+2,0,none⟩)∧w'.cell? ⟨w.heap.size+2,1,none⟩=some (cur w' ⟨w.heap.size+2,1,none⟩)∧w'.cell? ⟨w.heap.size+2,2,none⟩=some (cur w' ⟨w.heap.size+2,2,none⟩)∧w'.frozen? ⟨w.heap.size+2,0,none⟩=false∧w'.frozen? ⟨w.heap.size+2,1,none⟩=false∧w'.frozen? ⟨w.heap.size+2,2,none⟩=false∧Aq' 3 35 wB (w.heap.size+2) w'∧An' w4 w')
   (first | exact H4 | exact hk11.store | exact hk11 | exact hk10 | exact hk9 | exact hk8 | exact hk7 | exact hk6 | exact hk5)
   (first | (go_at_call_of 63 (Value.slice A1 (len x.num.natAbs) c1);refine ((HC1 _ ?_).out).mono ?_;assumption;rintro e w5 ⟨v5,rfl,hv5,hbl5⟩;obtain ⟨B5,e5,rfl,-⟩:=id hv5;have hk5:=An.call (by assumption) hbl5) | (go_at_call_of 63 (Value.slice A3 (len y.num.natAbs) c3);refine ((HC2 _ ?_).out).mono ?_;assumption;rintro e w6 ⟨v6,rfl,hv6,hbl6⟩;obtain ⟨B6,e6,rfl,-⟩:=id hv6;have hk6:=An.call (by assumption) hbl6) | (go_at_call_of 64 (Value.slice B5 (len (x.num.natAbs / g)) e5);refine (AS (hv5.keep hbl6) hv6 (nT HS.out.2.2.2.2.1 (by decide)) (nT HS.out.2.2.2.2.2.1 (by decide))).mono ?_;rintro e w7 ⟨v7,rfl,hv7,hbl7⟩;obtain ⟨B7,e7,rfl,-⟩:=id hv7;have hk7:=An.call (by assumption) hbl7) | (go_at_call_of 63 vb;refine ((HC4 _ ?_).out).mono ?_;assumption;rintro e w8 ⟨v8,rfl,hv8,hbl8⟩;obtain ⟨B8,e8,rfl,-⟩:=id hv8;have hk8:=An.call (by assumption) hbl8) | (go_at_call_of 63 vd;refine ((HC5 _ ?_).out).mono ?_;assumption;rintro e w9 ⟨v9,rfl,hv9,hbl9⟩;obtain ⟨B9,e9,rfl,-⟩:=id hv9;have hk9:=An.call (by assumption) hbl9) | (go_at_call_of 64 (Value.slice B8 (len (x.den / h)) e8);refine (AS (hv8.keep hbl9) hv9 (nT HS.out.2.2.2.2.2.2.1 (by decide)) (nT HS.out.2.2.2.2.2.2.2 (by decide))).mono ?_;rintro e w10 ⟨v10,rfl,hv10,hbl10⟩;obtain ⟨B10,e10,rfl,-⟩:=id hv10;have hk10:=An.call (by assumption) hbl10) | (go_at_call 60;refine (BU ((((hv7.keep hbl8).keep hbl9).keep hbl10)) hv10 hdpos HP.out.1 HP.out.2.1).mono ?_;rintro e w11 ⟨v11,rfl,hv11,hbl11⟩;obtain ⟨C1,j1,C2,j2,rfl,-,-⟩:=hv11.opened;have hk11:=An.call (by assumption) hbl11))
 rename_i hHl
 clear hHl
 have HD:=hk11.done (q:=x*y) (b:=decide ((x*y).num<0)) (A1:=C1) (n1:=len (x*y).num.natAbs) (c1:=j1) (A2:=C2) (n2:=len (below (x*y).den)) (c2:=j2) (hv11)
 obtain ⟨d1,d2,d3⟩:=HD
 obtain ⟨r0,r1,r2⟩:=Ad' d3
 have HD:=hid (And.intro d1 d2)
 clear d1 d2 d3
 go_wp2_with fail
 refine bP (v:=.agg #[.bool (decide ((x*y).num<0)),.slice (C1) (len (x*y).num.natAbs) (j1),.slice (C2) (len (below (x*y).den)) (j2)]) ?_ rfl ⟨_,rfl,HD.out.1,Ak' HB0.out (by omega) HD.out.2⟩
 simp [results,Tryz.results25,go_sem,r0,r1,r2]
theorem DO {w:World} {vx vy:Value} {x y:Rat} (hx:Ac' w vx x) (hy:Ac' w vy y) (hs:Aa' x≤34359738368) (ht:Aa' y≤34359738368) :
   Calls Tryz.prog 25 #[vx,vy] w (Az' w (x*y)):=by
 by_cases h1:x.den=1
 · by_cases h2:y.den=1
   · exact Is hx hy hs ht h1 h2
   · exact Ga' hx hy hs ht h1 h2
 · exact Ga hx hy hs ht h1
def AW' (w:World) (n:Int) (e:Ending) (w':World):Prop:=e=.returned (.int .i64 n)∧Below w.heap.size w w'
theorem Bt {w w':World} {a b:Int} (h:a=b) (hb:Below w.heap.size w w'):AW' w b (.returned (.int .i64 a)) w':=⟨by rw [h],hb⟩
theorem AS' {w:World} {vx:Value} {x:Rat} (hx:Ac' w vx x):Calls Tryz.prog 35 #[vx] w (AW' w x.num.sign):=by
 obtain ⟨A1,c1,A2,c2,rfl,hx1,hx2⟩:=hx.opened
 rcases Int.lt_trichotomy x.num 0 with h | h | h
 · have e:x.num.sign = -1:=Int.sign_eq_neg_one_of_neg h
   have hd:decide (x.num<0)=true:=dT_ h
   rw [hd,e]
   clear hd e h hx
   go_enter Tryz.func35,Tryz.ntmps35
   go_wp2_with fail
   go_ret
   exact Bt rfl ((Below.refl _ _).alloc (nL _) _)
 · have e:x.num.sign=0:=by rw [h];rfl
   have hd:decide (x.num<0)=false:=dF_ (by omega)
   have hl:len x.num.natAbs=0:=by rw [h];rfl
   rw [hd,e,hl]
   clear hd e h hx hl
   go_enter Tryz.func35,Tryz.ntmps35
   go_wp2_with fail
   go_ret
   exact Bt rfl ((Below.refl _ _).alloc (nL _) _)
 · have e:x.num.sign=1:=Int.sign_eq_one_of_pos h
   have hd:decide (x.num<0)=false:=dF_ (by omega)
   have hl:=Ak.2 (show 0<x.num.natAbs by omega)
   have hl1:(1:Int)≤((len x.num.natAbs:Nat):Int):=by omega
   rw [hd,e]
   clear hd e h hx
   go_enter Tryz.func35,Tryz.ntmps35
   go_wp2_with fail
   all_goals
     go_ret
     refine Bt ?_ ((Below.refl _ _).alloc (nL _) _)
     omega
theorem Gb {w:World} {vx vy:Value} {x y:Rat} (hx:Ac' w vx x) (hy:Ac' w vy y) (hs:Aa' x≤34359738368) (ht:Aa' y≤34359738368) :
   Calls Tryz.prog 21 #[vx,vy] w (Az' w (x - y)):=by
 obtain ⟨A1,c1,A2,c2,rfl,hx1,hx2⟩:=hx.opened
 obtain ⟨A3,c3,A4,c4,rfl,hy1,hy2⟩:=hy.opened
 obtain ⟨wB,hwB⟩:=eX (((w.alloc (.cells #[.bool (decide (x.num<0)),.slice A1 (len x.num.natAbs) c1,.slice A2 (len (below x.den)) c2] 35)).alloc (.cells #[.bool (!decide (y.num<0)),.slice A3 (len y.num.natAbs) c3,.slice A4 (len (below y.den)) c4] 35)).alloc (.cells #[.bool false,.slice none 0 0,.slice none 0 0] 35))
 obtain ⟨b0,gA,gA2,gB⟩:=AC hwB
 obtain ⟨k0,k1,k2⟩:=Ad' gA
 obtain ⟨k3,k4,k5⟩:=Ad' gA2
 have HK0:=hid (Aq'.start (T:=35) rfl (A1' _ _ _ _ _ _ _) gB)
 have HB0:=hid b0
 have hlt1:w.heap.size<w.heap.size+2:=by omega
 have hlt2:w.heap.size+1<w.heap.size+2:=by omega
 clear gA gA2 gB b0
 have hy':Bm wB (.agg #[.bool (!decide (y.num<0)),.slice A3 (len y.num.natAbs) c3,.slice A4 (len (below y.den)) c4]) (!decide (y.num<0)) (-y) :=
   ⟨_,_,rfl,by rw [Rat.neg_num,Int.natAbs_neg,Ir,Bx],by rw [Rat.neg_num,Int.natAbs_neg];exact hy1.keep HB0.out,by rw [Rat.neg_den];exact hy2.keep HB0.out⟩
 have HX:=hid (Dt (hx.keep HB0.out) hy' hs (by rw [Dm'];exact ht))
 have hsub:x + -y=x - y:=(Rat.sub_eq_add_neg x y).symm
 rw [hsub] at HX
 clear hsub hx hy
 go_enter Tryz.func21,Tryz.ntmps21
 go_upto_region 2 with fail
 rw [←hwB]
 clear hwB
 go_wp2_with fail
 refine (HX.out).mono ?_
 rintro e w2 ⟨v2,rfl,hv2,b2⟩
 obtain ⟨B1,e1,B2,e2,rfl,-,-⟩:=hv2.opened
 have hk:=(HK0.out.call b2).held (An'.refl _)
 obtain ⟨-,c0,c1',c2',f0,f1,f2,-⟩:=id hk
 have HD:=hk.done (q:=x - y) (b:=decide ((x - y).num<0)) (A1:=B1) (n1:=len (x - y).num.natAbs) (c1:=e1) (A2:=B2) (n2:=len (below (x - y).den)) (c2:=e2) (hv2)
 obtain ⟨d1,d2,d3⟩:=HD
 obtain ⟨r0,r1,r2⟩:=Ad' d3
 have HD:=hid (And.intro d1 d2)
 clear d1 d2 d3
 go_wp2_with fail
 refine bP (v:=.agg #[.bool (decide ((x - y).num<0)),.slice (B1) (len (x - y).num.natAbs) (e1),.slice (B2) (len (below (x - y).den)) (e2)]) ?_ rfl ⟨_,rfl,HD.out.1,Ak' HB0.out (by omega) HD.out.2⟩
 simp [results,Tryz.results21,go_sem,r0,r1,r2]
def BI' (w:World) (q:Rat) (c:Int) (e:Ending) (w':World):Prop:=∃ v,e=.returned (.tuple #[v,.int .i64 c])∧Ac' w' v q∧Below w.heap.size w w'
theorem Ft' {w:World} {vx vy:Value} {x y:Rat} (hx:Ac' w vx x) (hy:Ac' w vy y) (h:y=0) :
   Calls Tryz.prog 124 #[vx,vy] w (BI' w 0 10):=by
 obtain ⟨A1,c1,A2,c2,rfl,hx1,hx2⟩:=hx.opened
 obtain ⟨A3,c3,A4,c4,rfl,hy1,hy2⟩:=hy.opened
 obtain ⟨wB,hwB⟩:=eX (((w.alloc (.cells #[.bool (decide (x.num<0)),.slice A1 (len x.num.natAbs) c1,.slice A2 (len (below x.den)) c2] 35)).alloc (.cells #[.bool (decide (y.num<0)),.slice A3 (len y.num.natAbs) c3,.slice A4 (len (below y.den)) c4] 35)).alloc (.cells #[.bool false,.slice none 0 0,.slice none 0 0] 35))
 obtain ⟨b0,gA,gA2,gB⟩:=AC hwB
 obtain ⟨k0,k1,k2⟩:=Ad' gA
 obtain ⟨k3,k4,k5⟩:=Ad' gA2
 have HK0:=hid (Aq'.start (T:=35) rfl (A1' _ _ _ _ _ _ _) gB)
 have HB0:=hid b0
 have hlt1:w.heap.size<w.heap.size+2:=by omega
 have hlt2:w.heap.size+1<w.heap.size+2:=by omega
 clear gA gA2 gB b0
 have HX:=fun (w':World) (hk:Below w.heap.size w w')=>hid (AS' (hy.keep hk))
 have HE:Hid (y.num.sign=0):=by show _=_;rw [h];rfl
 clear h
 go_enter Tryz.func124,Tryz.ntmps124
 go_wp2_with fail
 rw [←hwB]
 clear hwB
 refine ((HX _ HB0.out).out).mono ?_
 rintro e w1 ⟨rfl,b1⟩
 rw [HE.out]
 have hk:=(HK0.out.call b1).held (An'.refl _)
 obtain ⟨-,c0,c1',c2',f0,f1,f2,-⟩:=id hk
 have HD:=hk.done (q:=0) (b:=false) (A1:=none) (n1:=0) (c1:=0) (A2:=none) (n2:=0) (c2:=0) (Bi' _)
 obtain ⟨d1,d2,d3⟩:=HD
 obtain ⟨r0,r1,r2⟩:=Ad' d3
 have HD:=hid (And.intro d1 d2)
 clear d1 d2 d3
 go_wp2_with fail
 refine bP (v:=.tuple #[.agg #[.bool (false),.slice (none) (0) (0),.slice (none) (0) (0)],.int .i64 10]) ?_ rfl ⟨_,rfl,HD.out.1,Ak' HB0.out (by omega) HD.out.2⟩
 simp [results,Tryz.results124,go_sem,r0,r1,r2]
theorem Gb' {w:World} {vx vy:Value} {x y:Rat} (hx:Ac' w vx x) (hy:Ac' w vy y) (hs:Aa' x≤34359738368) (ht:Aa' y≤34359738368) (h:y≠0) :
   Calls Tryz.prog 124 #[vx,vy] w (BI' w (x / y) 0):=by
 obtain ⟨A1,c1,A2,c2,rfl,hx1,hx2⟩:=hx.opened
 obtain ⟨A3,c3,A4,c4,rfl,hy1,hy2⟩:=hy.opened
 obtain ⟨wB,hwB⟩:=eX (((w.alloc (.cells #[.bool (decide (x.num<0)),.slice A1 (len x.num.natAbs) c1,.slice A2 (len (below x.den)) c2] 35)).alloc (.cells #[.bool (decide (y.num<0)),.slice A3 (len y.num.natAbs) c3,.slice A4 (len (below y.den)) c4] 35)).alloc (.cells #[.bool false,.slice none 0 0,.slice none 0 0] 35))
 obtain ⟨b0,gA,gA2,gB⟩:=AC hwB
 obtain ⟨k0,k1,k2⟩:=Ad' gA
 obtain ⟨k3,k4,k5⟩:=Ad' gA2
 have HK0:=hid (Aq'.start (T:=35) rfl (A1' _ _ _ _ _ _ _) gB)
 have HB0:=hid b0
 have hlt1:w.heap.size<w.heap.size+2:=by omega
 have hlt2:w.heap.size+1<w.heap.size+2:=by omega
 clear gA gA2 gB b0
 have HX:=fun (w':World) (hk:Below w.heap.size w w')=>hid (AS' (hy.keep hk))
 have hn:y.num≠0:=fun e=>h (Rat.num_eq_zero.1 e)
 have HE:Hid ((y.num.sign==0)=false):=by
   show _=_
   rw [beq_eq_false_iff_ne]
   intro e
   exact hn (Int.sign_eq_zero_iff_zero.1 e)
 have HP:=hid (GO' y h)
 have HS:Hid (Aa' y⁻¹≤34359738368):=nT (FL' y) ht
 have HH:=hid hs
 have hpos:0<y.num.natAbs:=by omega
 clear h hn hs ht
 go_enter Tryz.func124,Tryz.ntmps124
 go_wp2_with fail
 rw [←hwB]
 clear hwB
 refine ((HX _ HB0.out).out).mono ?_
 rintro e w1 ⟨rfl,b1⟩
 have HK1:=hid (HK0.out.call b1)
 have H1:=HK1.out.begin
 have hb1:=Ak' HB0.out (by omega) HK1.out.1
 have hx1':=hx.keep hb1
 have hy1':=hy.keep hb1
 have hyt:=hy1.keep hb1
 have hE:=HE.out
 clear HX b1 hb1
 have HX:=fun (w':World) (hk:An wB (w.heap.size+2) w1 w')=>hid (AD (hk.stay.num hy1'))
 go_wp2_with fail
 go_region_held3 (fun w'=>(∀ b o,b<w.heap.size+2→w'.cell? ⟨b,o,none⟩=wB.cell? ⟨b,o,none⟩)∧w'.cell? ⟨w.heap.size+2,0,none⟩=some (cur w' ⟨w.heap.size+2,0,none⟩)∧w'.cell? ⟨w.heap.size+2,1,none⟩=some (cur w' ⟨w.heap.size+2,1,none⟩)∧w'.cell? ⟨w.heap.size+2,2,none⟩=some (cur w' ⟨w.heap.size+2,2,none⟩)∧w'.frozen? ⟨w.heap.size+2,0,none⟩=false∧w'.frozen? ⟨w.heap.size+2,1,none⟩=false∧w'.frozen? ⟨w.heap.size+2,2,none⟩=false∧Aq' 3 35 wB (w.heap.size+2) w'∧An' w1 w')
   (first | exact H1 | exact hk4.store | exact hk4 | exact hk3 | exact hk2)
   (first | (go_at_call 61;refine ((HX _ ?_).out).mono ?_;assumption;rintro e w2 ⟨v2,rfl,hv2,hbl2⟩;have hk2:=An.call (by assumption) hbl2) | (go_at_call 60;refine (BU hv2 (hk2.stay _ _ hyt) hpos HP.out.1 HP.out.2).mono ?_;rintro e w3 ⟨v3,rfl,hv3,hbl3⟩;have hk3:=An.call (by assumption) hbl3) | (go_at_call 25;refine (DO (hk3.stay.num hx1') hv3 HH.out HS.out).mono ?_;rintro e w4 ⟨v4,rfl,hv4,hbl4⟩;obtain ⟨C1,j1,C2,j2,rfl,-,-⟩:=hv4.opened;have hk4:=An.call (by assumption) hbl4))
 rename_i hHl
 clear hHl
 have HD:=hk4.done (q:=x / y) (b:=decide ((x*y⁻¹).num<0)) (A1:=C1) (n1:=len (x*y⁻¹).num.natAbs) (c1:=j1) (A2:=C2) (n2:=len (below (x*y⁻¹).den)) (c2:=j2) (hv4)
 obtain ⟨d1,d2,d3⟩:=HD
 obtain ⟨r0,r1,r2⟩:=Ad' d3
 have HD:=hid (And.intro d1 d2)
 clear d1 d2 d3
 go_wp2_with fail
 refine bP (v:=.tuple #[.agg #[.bool (decide ((x*y⁻¹).num<0)),.slice (C1) (len (x*y⁻¹).num.natAbs) (j1),.slice (C2) (len (below (x*y⁻¹).den)) (j2)],.int .i64 0]) ?_ rfl ⟨_,rfl,HD.out.1,Ak' HB0.out (by omega) HD.out.2⟩
 simp [results,Tryz.results124,go_sem,r0,r1,r2]
theorem DO' {w:World} {vx vy:Value} {x y:Rat} (hx:Ac' w vx x) (hy:Ac' w vy y) (hs:Aa' x≤34359738368) (ht:Aa' y≤34359738368) :
   Calls Tryz.prog 124 #[vx,vy] w (BI' w (x / y) (if y=0 then 10 else 0)):=by
 by_cases h:y=0
 · rw [if_pos h]
   have e:x / y=0:=by rw [h,Rat.div_def,Rat.inv_zero,Rat.mul_zero]
   rw [e]
   exact Ft' hx hy h
 · rw [if_neg h]
   exact Gb' hx hy hs ht h
theorem Cg' {w:World} {vx vy:Value} {x y:Rat} (hx:Ac' w vx x) (hy:Ac' w vy y) (hs:Aa' x≤34359738368) (ht:Aa' y≤34359738368) :
   Calls Tryz.prog 82 #[vx,vy] w (Az' w (x / y)):=by
 obtain ⟨A1,c1,A2,c2,rfl,hx1,hx2⟩:=hx.opened
 obtain ⟨A3,c3,A4,c4,rfl,hy1,hy2⟩:=hy.opened
 obtain ⟨wB,hwB⟩:=eX (((w.alloc (.cells #[.bool (decide (x.num<0)),.slice A1 (len x.num.natAbs) c1,.slice A2 (len (below x.den)) c2] 35)).alloc (.cells #[.bool (decide (y.num<0)),.slice A3 (len y.num.natAbs) c3,.slice A4 (len (below y.den)) c4] 35)).alloc (.cells #[.bool false,.slice none 0 0,.slice none 0 0] 35))
 obtain ⟨b0,gA,gA2,gB⟩:=AC hwB
 obtain ⟨k0,k1,k2⟩:=Ad' gA
 obtain ⟨k3,k4,k5⟩:=Ad' gA2
 have HK0:=hid (Aq'.start (T:=35) rfl (A1' _ _ _ _ _ _ _) gB)
 have HB0:=hid b0
 have hlt1:w.heap.size<w.heap.size+2:=by omega
 have hlt2:w.heap.size+1<w.heap.size+2:=by omega
 clear gA gA2 gB b0
 have HX:=hid (DO' (hx.keep HB0.out) (hy.keep HB0.out) hs ht)
 obtain ⟨cc,hcc⟩:∃ cc:Int,cc=if y=0 then 10 else 0:=⟨_,rfl⟩
 rw [←hcc] at HX
 clear hcc hx hy
 go_enter Tryz.func82,Tryz.ntmps82
 go_wp2_with fail
 rw [←hwB]
 clear hwB
 refine (HX.out).mono ?_
 rintro e w2 ⟨v2,rfl,hv2,b2⟩
 obtain ⟨B1,e1,B2,e2,rfl,-,-⟩:=hv2.opened
 have HK2:=hid (HK0.out.call b2)
 go_upto_region 2 with fail
 obtain ⟨w3,hw3⟩:=eX (w2.alloc (.cells #[.bool (decide ((x / y).num<0)),.slice B1 (len (x / y).num.natAbs) e1,.slice B2 (len (below (x / y).den)) e2] 35))
 have b3:Below w2.heap.size w2 w3:=by rw [hw3];exact (Below.refl _ _).alloc (nL _) _
 have g3:w3.heap[w2.heap.size]?=some (.cells #[.bool (decide ((x / y).num<0)),.slice B1 (len (x / y).num.natAbs) e1,.slice B2 (len (below (x / y).den)) e2] 35 (0,0)):=by rw [hw3];exact hA_ w2 _
 obtain ⟨p0,p1,p2⟩:=Ad' g3
 have hk:=(HK2.out.call b3).held (An'.refl _)
 have hv3:=hv2.keep b3
 rw [←hw3]
 clear hw3 g3 b3 b2 HX k0 k1 k2 k3 k4 k5
 obtain ⟨-,c0,c1',c2',f0,f1,f2,-⟩:=id hk
 have HD:=hk.done (q:=x / y) (b:=decide ((x / y).num<0)) (A1:=B1) (n1:=len (x / y).num.natAbs) (c1:=e1) (A2:=B2) (n2:=len (below (x / y).den)) (c2:=e2) (hv3)
 obtain ⟨d1,d2,d3⟩:=HD
 obtain ⟨r0,r1,r2⟩:=Ad' d3
 have HD:=hid (And.intro d1 d2)
 clear d1 d2 d3
 go_wp2_with fail
 refine bP (v:=.agg #[.bool (decide ((x / y).num<0)),.slice (B1) (len (x / y).num.natAbs) (e1),.slice (B2) (len (below (x / y).den)) (e2)]) ?_ rfl ⟨_,rfl,HD.out.1,Ak' HB0.out (by omega) HD.out.2⟩
 simp [results,Tryz.results82,go_sem,r0,r1,r2]
end Go.Proofs.YtflopjfnppolgaaGreatDoor
