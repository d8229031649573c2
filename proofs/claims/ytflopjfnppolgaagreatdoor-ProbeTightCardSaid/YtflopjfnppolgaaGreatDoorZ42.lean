/-
  Contracts of the functions that the law calls, for every input (Eb Tf Qw Qx).
-/
import Derived.Test.YtflopjfnppolgaaGreatDoorZ00
import Derived.Test.YtflopjfnppolgaaGreatDoorZ41
import Derived.Test.YtflopjfnppolgaaGreatDoorZ30
import Derived.Test.YtflopjfnppolgaaGreatDoorZ40
import Derived.Test.YtflopjfnppolgaaGreatDoorZ19
import Derived.Test.YtflopjfnppolgaaGreatDoorZ29
set_option linter.all false
set_option maxRecDepth 100000
set_option maxHeartbeats 40000000
namespace Go.Proofs.YtflopjfnppolgaaGreatDoor.Rf
open Lib (hid)
open Go.RowKit
open Rx
open Vx (Aa' Ai Ai')
open List renaming getElem?_toArray → lg, getElem?_cons_zero → lz, getElem?_cons_succ → ls, setIfInBounds_toArray → lt, set_cons_zero → ly, set_cons_succ → lu
theorem cell_other {w w':World} {B b o:Nat} (OT:∀ (n:Nat) (x:Obj),n≠B→w.heap[n]?=some x→w'.heap[n]?=some x) (hne:b≠B) (hlt:b<w.heap.size):w'.cell? ⟨b,o,none⟩=w.cell? ⟨b,o,none⟩:=by
 have h:=Array.getElem?_eq_getElem hlt
 exact World.cell?_of_block ((OT b _ hne h).trans h.symm)
theorem Hf' {w:World} {g:Nat} {T:TypeId} {s0 s1 s2 s3:Bool} {A0 B0 A1 B1 A2 B2 A3 B3:Option Addr} {n0 c0 m0 d0 n1 c1 m1 d1 n2 c2 m2 d2 n3 c3 m3 d3:Nat} {q0 q1 q2 q3:Rat} (L:w.heap[g]?=some (.cells #[.bool s0,.slice A0 n0 c0,.slice B0 m0 d0,.bool s1,.slice A1 n1 c1,.slice B1 m1 d1,.bool s2,.slice A2 n2 c2,.slice B2 m2 d2,.bool s3,.slice A3 n3 c3,.slice B3 m3 d3] T (0,0)))
   (h0:Ah w (.agg #[.bool s0,.slice A0 n0 c0,.slice B0 m0 d0]) q0) (h1:Ah w (.agg #[.bool s1,.slice A1 n1 c1,.slice B1 m1 d1]) q1) (h2:Ah w (.agg #[.bool s2,.slice A2 n2 c2,.slice B2 m2 d2]) q2) (h3:Ah w (.agg #[.bool s3,.slice A3 n3 c3,.slice B3 m3 d3]) q3):A3' w g 0 [q0,q1,q2,q3]:=by
 intro i q hi
 match i,hi with
 | 0,hi=>obtain rfl:=Option.some.inj hi;exact ⟨s0,A0,n0,c0,B0,m0,d0,cR _ _ 0 _ _ _ L,cR _ _ 1 _ _ _ L,cR _ _ 2 _ _ _ L,h0⟩
 | 1,hi=>obtain rfl:=Option.some.inj hi;exact ⟨s1,A1,n1,c1,B1,m1,d1,cR _ _ 3 _ _ _ L,cR _ _ 4 _ _ _ L,cR _ _ 5 _ _ _ L,h1⟩
 | 2,hi=>obtain rfl:=Option.some.inj hi;exact ⟨s2,A2,n2,c2,B2,m2,d2,cR _ _ 6 _ _ _ L,cR _ _ 7 _ _ _ L,cR _ _ 8 _ _ _ L,h2⟩
 | 3,hi=>obtain rfl:=Option.some.inj hi;exact ⟨s3,A3,n3,c3,B3,m3,d3,cR _ _ 9 _ _ _ L,cR _ _ 10 _ _ _ L,cR _ _ 11 _ _ _ L,h3⟩
 | _+4,hi=>exact absurd hi (by simp)
theorem Gv' {a b c d:Rat} {N:Nat} (ha:Aa' a≤N) (hb:Aa' b≤N) (hc:Aa' c≤N) (hd:Aa' d≤N):∀ y∈[a,b,c,d],Aa' y≤N:=by
 intro y hy
 simp only [List.mem_cons,List.not_mem_nil,or_false] at hy
 rcases hy with rfl | rfl | rfl | rfl <;> assumption
theorem FH' {w:World} {vx vy:Value} {a b c d l h:Rat} (hc0:c≠0) (hd0:d≠0) (el:leastOf (a / c) [a / d,b / c,b / d]=l) (eh:greatestOf (a / c) [a / d,b / c,b / d]=h) (hx:Ay' w vx a b) (hy:Ay' w vy c d) (sa:Aa' a≤4000000) (sb:Aa' b≤4000000) (sc:Aa' c≤4000000) (sd:Aa' d≤4000000) :
   Calls Tryz.prog 50 #[vx,vy] w (B3' w l h):=by
 obtain ⟨q0,eq0⟩:=eY (a / c:Rat)
 have tq0:Aa' q0≤16777216:=by rw [←eq0];have:=Vx.AZ a c;omega
 obtain ⟨q1,eq1⟩:=eY (a / d:Rat)
 have tq1:Aa' q1≤16777216:=by rw [←eq1];have:=Vx.AZ a d;omega
 obtain ⟨q2,eq2⟩:=eY (b / c:Rat)
 have tq2:Aa' q2≤16777216:=by rw [←eq2];have:=Vx.AZ b c;omega
 obtain ⟨q3,eq3⟩:=eY (b / d:Rat)
 have tq3:Aa' q3≤16777216:=by rw [←eq3];have:=Vx.AZ b d;omega
 rw [eq0,eq1,eq2,eq3] at el eh
 have hsm:=hid (Gv' tq0 tq1 tq2 tq3)
 have ta:=hid (show Aa' a≤268435456 by omega)
 have tb:=hid (show Aa' b≤268435456 by omega)
 have tc:=hid (show Aa' c≤268435456 by omega)
 have td:=hid (show Aa' d≤268435456 by omega)
 clear sa sb sc sd tq0 tq1 tq2 tq3
 replace el:=hid el
 replace eh:=hid eh
 replace eq0:=hid eq0
 replace eq1:=hid eq1
 replace eq2:=hid eq2
 replace eq3:=hid eq3
 replace hc0:=hid hc0
 replace hd0:=hid hd0
 obtain ⟨C1,j1,C2,j2,C3,j3,C4,j4,rfl,hxl,hxh⟩:=id hx.opened
 replace hx:=hid hx
 replace hxl:=hid hxl
 replace hxh:=hid hxh
 obtain ⟨C5,j5,C6,j6,C7,j7,C8,j8,rfl,hyl,hyh⟩:=id hy.opened
 replace hy:=hid hy
 replace hyl:=hid hyl
 replace hyh:=hid hyh
 obtain ⟨w1,hw1⟩:=eX ((((w.alloc (.cells #[.bool (decide (a.num<0)),.slice C1 (len a.num.natAbs) j1,.slice C2 (len a.den) j2,.bool (decide (b.num<0)),.slice C3 (len b.num.natAbs) j3,.slice C4 (len b.den) j4] 45)).alloc (.cells #[.bool (decide (c.num<0)),.slice C5 (len c.num.natAbs) j5,.slice C6 (len c.den) j6,.bool (decide (d.num<0)),.slice C7 (len d.num.natAbs) j7,.slice C8 (len d.den) j8] 45)).alloc (.cells #[.bool false,.slice none 0 0,.slice none 0 0,.bool false,.slice none 0 0,.slice none 0 0] 45)))
 obtain ⟨b1,g1,g2,g3⟩:=AC hw1
 replace g1:=hid g1
 replace g2:=hid g2
 replace g3:=hid g3
 replace b1:=hid b1
 go_enter Tryz.func50,Tryz.ntmps50
 go_upto_region 1 with fail
 rw [←hw1]
 clear hw1
 go_wp2_with fail
 have HSZa:Hid ((w.heap.size+2)≤w1.heap.size):=hid (by have:=Al' (Ab' g3.out (Below.refl _ w1));omega)
 obtain ⟨z_x_0,z_x_1,z_x_2,z_x_3,z_x_4,z_x_5⟩:=Aj g1.out
 have hlta_x:w.heap.size<(w.heap.size+2):=by omega
 obtain ⟨z_y_0,z_y_1,z_y_2,z_y_3,z_y_4,z_y_5⟩:=Aj g2.out
 have hlta_y:w.heap.size+1<(w.heap.size+2):=by omega
 have H0:=Ah'.start w1 (w.heap.size+2)
 have H0':=H0
 unfold Ah' at H0'
 refine wp_region_held_drew (S:=(fun w'=>(∀ b o,b<(w.heap.size+2)→w'.cell? ⟨b,o,none⟩=w1.cell? ⟨b,o,none⟩)∧Below ((w.heap.size+2)) w1 w'∧An' w1 w')) (by kernel_rfl) ?_ (fun hHeld=>?_)
 · (try dsimp only)
   exact H0'
 obtain ⟨w2,hw2⟩:=eX w1.drew
 have b2:Hid (Below w1.heap.size w1 w2):=by rw [hw2];exact ⟨rfl,rfl,rfl,nL _,fun _ _=>rfl⟩
 rw [←hw2] at hHeld H0 ⊢
 clear hw2 H0'
 refine tk (i:=0) (h:=?_)
 try simp only [Act.put,lt,ly,lu]
 refine tk (i:=1) (h:=?_)
 try simp only [Act.put,lt,ly,lu]
 refine tk (i:=2) (h:=?_)
 try simp only [Act.put,lt,ly,lu]
 refine tk (i:=3) (h:=?_)
 try simp only [Act.put,lt,ly,lu]
 refine tk (i:=5) (h:=?_)
 try simp only [Act.put,lt,ly,lu]
 refine tk (i:=6) (h:=?_)
 try simp only [Act.put,lt,ly,lu]
 refine tk (i:=7) (h:=?_)
 try simp only [Act.put,lt,ly,lu]
 refine tk (i:=8) (h:=?_)
 try simp only [Act.put,lt,ly,lu]
 refine tk (i:=10) (h:=?_)
 try simp only [Act.put,lt,ly,lu]
 refine tk (i:=11) (h:=?_)
 try simp only [Act.put,lt,ly,lu]
 refine tk (i:=12) (h:=?_)
 try simp only [Act.put,lt,ly,lu]
 refine tk (i:=13) (h:=?_)
 try simp only [Act.put,lt,ly,lu]
 refine tk (i:=15) (h:=?_)
 try simp only [Act.put,lt,ly,lu]
 refine tk (i:=16) (h:=?_)
 try simp only [Act.put,lt,ly,lu]
 refine tk (i:=17) (h:=?_)
 try simp only [Act.put,lt,ly,lu]
 refine tk (i:=18) (h:=?_)
 try simp only [Act.put,lt,ly,lu]
 have y0_2:=hid (bS b1.out b2.out)
 refine rdz (i:=4) (h:=fun K hK=>?_);go_simp;go_at_call 85
 refine (C0 hc0.out eq0.out (hxl.out.keep y0_2.out) (hyl.out.keep y0_2.out) ta.out tc.out).mono ?_
 rintro e w3 ⟨v3,rfl,hv3,b3⟩
 obtain ⟨C9,j9,C10,j10,rfl,-,-⟩:=id hv3.opened
 replace hv3:=hid hv3
 replace b3:=hid b3
 have hk3:=Av' H0 HSZa b3.out;clear hHeld H0
 refine hK.out _ _ (by (try dsimp only);with_reducible exact hun hk3) (fun hHeld=>?_)
 clear hK K;try simp only [Act.put,lt,ly,lu]
 have y0_3:=hid (bS y0_2.out b3.out)
 refine rdz (i:=9) (h:=fun K hK=>?_);go_simp;go_at_call 85
 refine (C0 hd0.out eq1.out (hxl.out.keep y0_3.out) (hyh.out.keep y0_3.out) ta.out td.out).mono ?_
 rintro e w4 ⟨v4,rfl,hv4,b4⟩
 obtain ⟨C11,j11,C12,j12,rfl,-,-⟩:=id hv4.opened
 replace hv4:=hid hv4
 replace b4:=hid b4
 have hk4:=Av' hk3 HSZa b4.out;clear hHeld hk3
 refine hK.out _ _ (by (try dsimp only);with_reducible exact hun hk4) (fun hHeld=>?_)
 clear hK K;try simp only [Act.put,lt,ly,lu]
 have y0_4:=hid (bS y0_3.out b4.out)
 refine rdz (i:=14) (h:=fun K hK=>?_);go_simp;go_at_call 85
 refine (C0 hc0.out eq2.out (hxh.out.keep y0_4.out) (hyl.out.keep y0_4.out) tb.out tc.out).mono ?_
 rintro e w5 ⟨v5,rfl,hv5,b5⟩
 obtain ⟨C13,j13,C14,j14,rfl,-,-⟩:=id hv5.opened
 replace hv5:=hid hv5
 replace b5:=hid b5
 have hk5:=Av' hk4 HSZa b5.out;clear hHeld hk4
 refine hK.out _ _ (by (try dsimp only);with_reducible exact hun hk5) (fun hHeld=>?_)
 clear hK K;try simp only [Act.put,lt,ly,lu]
 have y0_5:=hid (bS y0_4.out b5.out)
 refine rdz (i:=19) (h:=fun K hK=>?_);go_simp;go_at_call 85
 refine (C0 hd0.out eq3.out (hxh.out.keep y0_5.out) (hyh.out.keep y0_5.out) tb.out td.out).mono ?_
 rintro e w6 ⟨v6,rfl,hv6,b6⟩
 obtain ⟨C15,j15,C16,j16,rfl,-,-⟩:=id hv6.opened
 replace hv6:=hid hv6
 replace b6:=hid b6
 have hk6:=Av' hk5 HSZa b6.out;clear hHeld hk5
 refine hK.out _ _ (by (try dsimp only);with_reducible exact hun hk6) (fun hHeld=>?_)
 clear hK K;try simp only [Act.put,lt,ly,lu]
 refine wpAnyH_ready (rs:=[20]) (by kernel_rfl) (by simp) (AllReadyH.cons (o:=?oq44) ?eq44 ?kq44 AllReadyH.nil)
 case eq44=>simp only [lg,lz,ls];rfl
 intro K hK;go_simp
 have y3_6:=hid (bS (bS b4.out b5.out) b6.out)
 have y4_6:=hid (bS b5.out b6.out)
 obtain ⟨w7,hw7⟩:=eX (w6.alloc (.cells #[.bool (decide (q0.num<0)),.slice C9 (len q0.num.natAbs) j9,.slice C10 (len q0.den) j10,.bool (decide (q1.num<0)),.slice C11 (len q1.num.natAbs) j11,.slice C12 (len q1.den) j12,.bool (decide (q2.num<0)),.slice C13 (len q2.num.natAbs) j13,.slice C14 (len q2.den) j14,.bool (decide (q3.num<0)),.slice C15 (len q3.num.natAbs) j15,.slice C16 (len q3.den) j16] 43))
 have b7:Below w6.heap.size w6 w7:=AO' hw7
 have HR7:=hid (Hf' (AR' hw7) (((hv3.out.keep (bS (bS b4.out b5.out) b6.out))).keep b7) (((hv4.out.keep (bS b5.out b6.out))).keep b7) (((hv5.out.keep b6.out)).keep b7) ((hv6.out).keep b7))
 rw [←hw7]
 clear hw7
 have hk7:=Av' hk6 HSZa b7;replace b7:=hid b7;have hk7':=hk7;unfold Ah' at hk7';clear hHeld hk6
 refine hK.out _ _ ?_ (fun hHeld=>?_)
 · (try dsimp only);with_reducible exact hk7'
 clear hK K hk7';try simp only [Act.put,lt,ly,lu]
 refine rdz (i:=21) (h:=fun K hK=>?_);go_simp;go_at_call 78
 refine (EI' el.out eh.out HR7.out (by simp) hsm.out).mono ?_
 rintro e w8 ⟨v8,rfl,hv8,b8⟩
 obtain ⟨C17,j17,C18,j18,C19,j19,C20,j20,rfl,-,-,-,-⟩:=id hv8.opened
 replace hv8:=hid hv8
 replace b8:=hid b8
 have hk8:=Av' hk7 HSZa b8.out;clear hHeld hk7
 refine hK.out _ _ (by (try dsimp only);with_reducible exact hun hk8) (fun hHeld=>?_)
 clear hK K;try simp only [Act.put,lt,ly,lu]
 have y1_8:=hid (bS (bS (bS (bS (bS (bS b2.out b3.out) b4.out) b5.out) b6.out) b7.out) b8.out)
 have Dq46:=(Ab' g3.out y1_8.out)
 refine rdz (i:=22) (h:=fun K hK=>?_)
 have q0:w8.cell? ⟨w.heap.size+2,0,none⟩=some (.bool false):=cR _ _ _ _ _ _ Dq46
 have F0:w8.frozen? ⟨w.heap.size+2,0,none⟩=false:=fR w8 (w.heap.size+2) 0 _ _ Dq46
 have q1:w8.cell? ⟨w.heap.size+2,1,none⟩=some (.slice none 0 0):=cR _ _ _ _ _ _ Dq46
 have F1:w8.frozen? ⟨w.heap.size+2,1,none⟩=false:=fR w8 (w.heap.size+2) 1 _ _ Dq46
 have q2:w8.cell? ⟨w.heap.size+2,2,none⟩=some (.slice none 0 0):=cR _ _ _ _ _ _ Dq46
 have F2:w8.frozen? ⟨w.heap.size+2,2,none⟩=false:=fR w8 (w.heap.size+2) 2 _ _ Dq46
 have q3:w8.cell? ⟨w.heap.size+2,3,none⟩=some (.bool false):=cR _ _ _ _ _ _ Dq46
 have F3:w8.frozen? ⟨w.heap.size+2,3,none⟩=false:=fR w8 (w.heap.size+2) 3 _ _ Dq46
 have q4:w8.cell? ⟨w.heap.size+2,4,none⟩=some (.slice none 0 0):=cR _ _ _ _ _ _ Dq46
 have F4:w8.frozen? ⟨w.heap.size+2,4,none⟩=false:=fR w8 (w.heap.size+2) 4 _ _ Dq46
 have q5:w8.cell? ⟨w.heap.size+2,5,none⟩=some (.slice none 0 0):=cR _ _ _ _ _ _ Dq46
 have F5:w8.frozen? ⟨w.heap.size+2,5,none⟩=false:=fR w8 (w.heap.size+2) 5 _ _ Dq46
 replace Dq46:=hid Dq46
 go_simp
 clear q0 F0 q1 F1 q2 F2 q3 F3 q4 F4 q5 F5
 have y0_8:=hid (bS (bS (bS y0_5.out b6.out) b7.out) b8.out)
 have FB:=hid y0_8.out
 have FV:=hid hv8.out
 obtain ⟨ue,hw⟩:=eX (((((((w8.setCell ⟨w.heap.size+2,0,none⟩ (.bool (decide (l.num<0)))).setCell ⟨w.heap.size+2,1,none⟩ (.slice C17 (len l.num.natAbs) j17)).setCell ⟨w.heap.size+2,2,none⟩ (.slice C18 (len l.den) j18)).setCell ⟨w.heap.size+2,3,none⟩ (.bool (decide (h.num<0)))).setCell ⟨w.heap.size+2,4,none⟩ (.slice C19 (len h.num.natAbs) j19)).setCell ⟨w.heap.size+2,5,none⟩ (.slice C20 (len h.den) j20)))
 obtain ⟨E_ue,OT,LV,BL⟩:=AF Dq46.out hw
 rw [←hw]
 clear hw
 replace E_ue:=hid E_ue
 have FE:=hid (LV.rbox FV.out)
 replace FB:=hid (BL _ _ (by omega) FB.out)
 have HKE:=hk8
 refine hK.out _ _ ?_ (fun hHeld2=>?_)
 · (try dsimp only)
   exact ⟨fun b o hb=>(Au (BL (w.heap.size+2) _ (by omega) hk8.2.1)) b o hb,BL (w.heap.size+2) _ (by omega) hk8.2.1,A7' hk8.2.2 LV⟩
 clear hK K hHeld OT LV BL HKE
 try simp only [Act.put,lt,ly,lu]
 have hHeld:=hHeld2
 clear hHeld2
 refine wpAnyH_done (by kernel_rfl) ?_ _
 clear hHeld
 obtain ⟨r0,r1,r2,r3,r4,r5⟩:=Aj E_ue.out
 go_wp2_with fail
 refine bP (v:=.agg #[.bool (decide (l.num<0)),.slice C17 (len l.num.natAbs) j17,.slice C18 (len l.den) j18,.bool (decide (h.num<0)),.slice C19 (len h.num.natAbs) j19,.slice C20 (len h.den) j20]) ?_ rfl ⟨_,rfl,FE.out,FB.out⟩
 simp [results,Tryz.results50,go_sem,r0,r1,r2,r3,r4,r5]
theorem IH' (x:Rat) (n:Nat):Aa' (x^n)≤Aa' x*n+1:=by
 induction n with
 | zero =>
   rw [Rat.pow_zero]
   have:Aa' 1≤1:=by decide +kernel
   omega
 | succ n ih=>rw [Rat.pow_succ,Nat.mul_succ];have:=Vx.B0' (x^n) x;omega
theorem Hg {p:Rat} {n:Nat} (sp:Aa' p≤100000) (hn:n≤64):∀ k,k≤n+1→Aa' (p^k)≤268435456:=by
 intro k hk
 have h1:=IH' p k
 have h2:Aa' p*k≤100000*65:=Nat.mul_le_mul sp (by omega)
 omega
def Gw (w:World) (X P:Nat) (cx:Array Value) (p:Rat) (k:Nat) (wr:World):Prop :=
  ∃ A1 n1 c1 A2 n2 c2 b,wr.heap[P]?=some (.cells #[.bool b,.slice A1 n1 c1,.slice A2 n2 c2] 43 (0,0))∧Ah wr (.agg #[.bool b,.slice A1 n1 c1,.slice A2 n2 c2]) (p^k) ∧
    wr.heap[X]?=some (.cells cx 43 (0,0))∧wr.heap[X+1]?=some (.cells #[.bool false,.slice none 0 0,.slice none 0 0] 43 (0,0))∧Ah wr (.agg cx) p∧Below w.heap.size w wr
theorem H8' {w:World} {vx:Value} {p r:Rat} {n:Nat} (hr:p^n=r) (hx:Ah w vx p) (sp:Aa' p≤100000) (hn:n≤64) :
   Calls Tryz.prog 51 #[vx,.int .i64 (n:Nat)] w (A2' w r):=by
 obtain ⟨o,eo⟩:=eY (((1:Int):Rat):Rat)
 have e0:p^0=o:=by rw [←eo,Rat.pow_zero];rfl
 have HS:=hid (Hg sp hn)
 replace eo:=hid eo
 replace e0:=hid e0
 replace hr:=hid hr
 obtain ⟨C1,j1,C2,j2,rfl,-,-⟩:=id hx.opened
 replace hx:=hid hx
 obtain ⟨w1,hw1⟩:=eX (((w.alloc (.cells #[.bool (decide (p.num<0)),.slice C1 (len p.num.natAbs) j1,.slice C2 (len p.den) j2] 43)).alloc (.cells #[.bool false,.slice none 0 0,.slice none 0 0] 43)))
 obtain ⟨b1,g1,g2⟩:=AL' hw1
 replace g1:=hid g1
 replace g2:=hid g2
 replace b1:=hid b1
 go_enter Tryz.func51,Tryz.ntmps51
 go_upto_region 1 with fail
 rw [←hw1]
 clear hw1
 have HX:=hid (BQ (w:=w1) eo.out (by omega) (by omega))
 go_wp2_with fail
 refine (HX.out).mono ?_
 rintro e w2 ⟨v2,rfl,hv2,b2⟩
 obtain ⟨C3,j3,C4,j4,rfl,-,-⟩:=id hv2.opened
 replace hv2:=hid hv2
 replace b2:=hid b2
 clear HX
 go_upto_region 2 with fail
 obtain ⟨w3,hw3⟩:=eX (w2.alloc (.cells #[.bool (decide (o.num<0)),.slice C3 (len o.num.natAbs) j3,.slice C4 (len o.den) j4] 43))
 have b3:Hid (Below w2.heap.size w2 w3):=by rw [hw3];exact (Below.refl _ _).alloc (nL _) _
 have L3:Hid (w3.heap[w2.heap.size]?=some (.cells #[.bool (decide (o.num<0)),.slice C3 (len o.num.natAbs) j3,.slice C4 (len o.den) j4] 43 (0,0))):=by rw [hw3];exact hA_ w2 _
 rw [←hw3]
 clear hw3
 obtain ⟨P,hP⟩:=eY w2.heap.size
 obtain ⟨X,hX⟩:=eY w.heap.size
 have hXP:X+1<P:=by rw [←hP,←hX];have:=Al' (Ab' g2.out b2.out);omega
 have HP0:Gw w X P (#[.bool (decide (p.num<0)),.slice C1 (len p.num.natAbs) j1,.slice C2 (len p.den) j2]) p 0 w3:=⟨_,_,_,_,_,_,_,by rw [←hP];exact L3.out,by rw [e0.out];exact (hv2.out.keep b3.out),by rw [←hX];exact Ab' g1.out (bS b2.out b3.out),by rw [←hX];exact (Ab' g2.out (bS b2.out b3.out)),(hx.out.keep (bS (bS b1.out b2.out) b3.out)),(bS (bS b1.out b2.out) b3.out)⟩
 rw [hX,hP]
 replace HP0:=hid HP0
 clear b1 b2 b3 g1 g2 L3 hv2 hx eo e0 hP
 go_wp2_with fail
 go_loopw [6] (fun iv wr=>∃ k:Nat,k≤n∧iv=.int .i64 k∧Hid (Gw w X P (#[.bool (decide (p.num<0)),.slice C1 (len p.num.natAbs) j1,.slice C2 (len p.den) j2]) p k wr)) (fun iv _=>n - (intOf iv).toNat)
 case atStart=>exact ⟨0,Nat.zero_le _,rfl,HP0⟩
 case round =>
   obtain ⟨k,hk,rfl,hrel⟩:=hrel
   obtain ⟨B1,m1,d1,B2,m2,d2,bb,g5,hv,gx,gR,hxx,hbw⟩:=hrel.out
   clear hrel
   obtain ⟨z0,z1,z2⟩:=Ad' g5
   obtain ⟨y0,y1,y2⟩:=Ad' gx
   rcases Nat.lt_or_ge k n with hkn | hkn
   · have HX:=hid (HY' (show p^k*p=p^(k+1) from (Rat.pow_succ p k).symm) hv hxx (HS.out k (by omega)) (HS.out 1 (by omega) |> fun h=>by rw [Rat.pow_one] at h;exact h))
     replace g5:=hid g5
     replace gx:=hid gx
     replace gR:=hid gR
     replace hxx:=hid hxx
     replace hbw:=hid hbw
     clear hv
     go_wp2_with fail
     refine (HX.out).mono ?_
     rintro e w7 ⟨v7,rfl,hv7,b7⟩
     obtain ⟨Q1,i1,Q2,i2,rfl,-,-⟩:=id hv7.opened
     replace hv7:=hid hv7
     have D5:=Ab' g5.out b7
     have q0:=cR _ _ 0 _ _ _ D5
     have q1:=cR _ _ 1 _ _ _ D5
     have q2:=cR _ _ 2 _ _ _ D5
     have F0:=fR w7 P 0 _ _ D5
     have F1:=fR w7 P 1 _ _ D5
     have F2:=fR w7 P 2 _ _ D5
     simp only [lg,lz,ls] at q0 q1 q2
     obtain ⟨r,hr7⟩:=eY (p^(k+1))
     rw [hr7] at hv7 ⊢
     replace hr7:=hid hr7
     obtain ⟨ue,hw⟩:=eX ((((w7.setCell ⟨P,0,none⟩ (.bool (decide (r.num<0)))).setCell ⟨P,1,none⟩ (.slice Q1 (len r.num.natAbs) i1)).setCell ⟨P,2,none⟩ (.slice Q2 (len r.den) i2)))
     obtain ⟨E,OT,LV,BL⟩:=AE D5 hw
     have FIN:Hid (Gw w X P (#[.bool (decide (p.num<0)),.slice C1 (len p.num.natAbs) j1,.slice C2 (len p.den) j2]) p (k+1) ue):=hid ⟨_,_,_,_,_,_,_,E,by rw [hr7.out];exact LV.rat hv7.out,OT _ _ (by omega) (Ab' gx.out b7),OT _ _ (by omega) (Ab' gR.out b7),LV.rat (hxx.out.keep b7),BL _ _ (by omega) (Ae' hbw.out b7)⟩
     replace hw:=hid hw
     clear HX D5 E OT LV BL b7 g5 gx gR hxx hbw z0 z1 z2 y0 y1 y2
     go_wp2_with fail
     rw [←hw.out]
     go_roundw
     case rel=>exact ⟨k+1,hkn,by go_num,FIN⟩
     case measure=>simp [intOf];omega
   · obtain rfl:k=n:=Nat.le_antisymm hk hkn
     rw [hr.out] at hv
     have q0:=cR _ _ 0 _ _ _ gR
     have q1:=cR _ _ 1 _ _ _ gR
     have q2:=cR _ _ 2 _ _ _ gR
     have F0:=fR wr (X+1) 0 _ _ gR
     have F1:=fR wr (X+1) 1 _ _ gR
     have F2:=fR wr (X+1) 2 _ _ gR
     simp only [lg,lz,ls] at q0 q1 q2
     obtain ⟨ue,hw⟩:=eX ((((wr.setCell ⟨(X+1),0,none⟩ (.bool bb)).setCell ⟨(X+1),1,none⟩ (.slice B1 m1 d1)).setCell ⟨(X+1),2,none⟩ (.slice B2 m2 d2)))
     obtain ⟨E,-,LV,BL⟩:=AE gR hw
     have FE:=hid (LV.rat hv)
     have FB:=hid (BL _ _ (by omega) hbw)
     replace E:=hid E
     replace hw:=hid hw
     clear HS gx hxx hbw y0 y1 y2 BL LV hv gR g5
     go_wp2_with fail
     rw [←hw.out]
     obtain ⟨r0,r1,r2⟩:=Ad' E.out
     refine bP (v:=.agg #[.bool bb,.slice B1 m1 d1,.slice B2 m2 d2]) ?_ rfl ⟨_,rfl,FE.out,FB.out⟩
     simp [results,Tryz.results51,go_sem,r0,r1,r2]
def As (N:Int) (D:Nat):Rat:=(N:Rat) / (((D%16+1:Nat):Int):Rat)
theorem Dj' {w:World} {a b:Int} {q:Rat} (hq:(a:Rat) / (b:Rat)=q) (hb:0<b) (ha1 : -9223372036854775808≤a) (ha2:a≤9223372036854775807) (hb2:b≤9223372036854775807) :
   Calls Tryz.prog 19 #[.int .i64 a,.int .i64 b] w (BI' w q 0):=by
 have h:=Fd' (w:=w) (a:=a) (b:=b) ha1 ha2 (by omega) hb2
 rw [if_neg (by omega),if_neg (by omega),if_neg (by omega),Rat.mkRat_eq_div] at h
 have e:((b.natAbs:Int):Rat)=(b:Rat):=by rw [Int.natAbs_of_nonneg (by omega)]
 rw [←hq,←e]
 exact h
theorem Bw {w:World} {N:Int} {D:Nat} {q:Rat} (hN1 : -2147483648≤N) (hN2:N≤2147483647) (hD:D≤255) (hq:As N D=q) :
   Calls Tryz.prog 9 #[.agg #[.int .i32 N,.int .u8 ((D:Nat):Int)]] w (Az' w q):=by
 have hD16:((D:Nat):Int)%16=((D%16:Nat):Int):=by omega
 have hDt:Int.tmod ((D:Nat):Int) 16=((D%16:Nat):Int):=by rw [Int.tmod_eq_emod_of_nonneg (by omega)];exact hD16
 have hk:D%16<16:=Nat.mod_lt _ (by omega)
 obtain ⟨k,ek⟩:=eY (D%16)
 rw [ek] at hD16 hDt hk
 have hw1:IntKind.i64.wrap N=N:=by
   unfold IntKind.wrap
   simp [IntKind.bits,IntKind.signed]
   omega
 have hw2:IntKind.u8.wrap ((k:Nat):Int)=((k:Nat):Int):=by
   unfold IntKind.wrap
   simp [IntKind.bits,IntKind.signed]
   omega
 have hw3:IntKind.i64.wrap ((k:Nat):Int)=((k:Nat):Int):=by
   unfold IntKind.wrap
   simp [IntKind.bits,IntKind.signed]
   omega
 have hw4:IntKind.i64.wrap (((k:Nat):Int)+1)=((k:Nat):Int)+1:=by
   unfold IntKind.wrap
   simp [IntKind.bits,IntKind.signed]
   omega
 have hq2:(N:Rat) / ((((k:Nat):Int)+1:Int):Rat)=q:=by rw [←hq];unfold As;rw [ek];rfl
 have hk1:(0:Int)<((k:Nat):Int)+1:=by omega
 have hk2:((k:Nat):Int)+1≤9223372036854775807:=by omega
 have hn1:(-9223372036854775808:Int)≤N:=by omega
 have hn2:N≤9223372036854775807:=by omega
 clear hq hN1 hN2
 replace hq2:=hid hq2
 replace ek:=hid ek
 replace hk1:=hid hk1
 replace hk2:=hid hk2
 replace hn1:=hid hn1
 replace hn2:=hid hn2
 replace hk:=hid hk
 clear hD
 obtain ⟨w1,hw⟩:=eX ((w.alloc (.cells #[.int .i32 N,.int .u8 ((D:Nat):Int)] 23)).alloc (.cells #[.bool false,.slice none 0 0,.slice none 0 0] 35))
 obtain ⟨b1,g1,g2⟩:=Ch hw
 obtain ⟨z0,z1⟩:w1.cell? ⟨w.heap.size,0,none⟩=some (.int .i32 N)∧w1.cell? ⟨w.heap.size,1,none⟩=some (.int .u8 ((D:Nat):Int)):=⟨cR _ _ 0 _ _ _ g1,cR _ _ 1 _ _ _ g1⟩
 replace b1:=hid b1
 replace g1:=hid g1
 replace g2:=hid g2
 go_enter Tryz.func9,Tryz.ntmps9
 go_upto_region 1 with fail
 rw [←hw]
 clear hw
 have HX:=hid (Dj' (w:=w1) hq2.out hk1.out hn1.out hn2.out hk2.out)
 go_wp2_with fail
 refine (HX.out).mono ?_
 rintro e w2 ⟨v2,rfl,hv2,b2⟩
 obtain ⟨C1,j1,C2,j2,rfl,-,-⟩:=id hv2.opened
 replace hv2:=hid hv2
 replace b2:=hid b2
 clear HX
 go_upto_region 2 with fail
 obtain ⟨w3,hw3⟩:=eX (w2.alloc (.cells #[.bool (decide (q.num<0)),.slice C1 (Vx.len q.num.natAbs) j1,.slice C2 (Vx.len (below q.den)) j2] 35))
 have b3:=hid (AO' hw3)
 have L3:=hid (AR' hw3)
 rw [←hw3]
 clear hw3
 obtain ⟨z_o_0,z_o_1,z_o_2⟩:=Ad' L3.out
 have y1_3:=hid (bS b2.out b3.out)
 have DR:=(Ab' g2.out y1_3.out)
 have q0:w3.cell? ⟨w.heap.size+1,0,none⟩=some (.bool false):=cR _ _ _ _ _ _ DR
 have F0:w3.frozen? ⟨w.heap.size+1,0,none⟩=false:=fR w3 (w.heap.size+1) 0 _ _ DR
 have q1:w3.cell? ⟨w.heap.size+1,1,none⟩=some (.slice none 0 0):=cR _ _ _ _ _ _ DR
 have F1:w3.frozen? ⟨w.heap.size+1,1,none⟩=false:=fR w3 (w.heap.size+1) 1 _ _ DR
 have q2:w3.cell? ⟨w.heap.size+1,2,none⟩=some (.slice none 0 0):=cR _ _ _ _ _ _ DR
 have F2:w3.frozen? ⟨w.heap.size+1,2,none⟩=false:=fR w3 (w.heap.size+1) 2 _ _ DR
 have y0_3:=hid (bS (bS b1.out b2.out) b3.out)
 have FB:=y0_3.out
 have FV:=(hv2.out.keep b3.out)
 obtain ⟨ue,hw⟩:=eX ((((w3.setCell ⟨w.heap.size+1,0,none⟩ (.bool (decide (q.num<0)))).setCell ⟨w.heap.size+1,1,none⟩ (.slice C1 (Vx.len q.num.natAbs) j1)).setCell ⟨w.heap.size+1,2,none⟩ (.slice C2 (Vx.len (below q.den)) j2)))
 obtain ⟨E_ue,-,LV,BL⟩:=AE DR hw
 have FE:=hid (LV.num FV)
 replace FB:=hid (BL _ _ (by omega) FB)
 replace E_ue:=hid E_ue
 replace hw:=hid hw
 clear DR FV LV BL
 go_wp2_with fail
 rw [←hw.out]
 obtain ⟨r0,r1,r2⟩:=Ad' E_ue.out
 refine bP (v:=.agg #[.bool (decide (q.num<0)),.slice C1 (Vx.len q.num.natAbs) j1,.slice C2 (Vx.len (below q.den)) j2]) ?_ rfl ⟨_,rfl,FE.out,FB.out⟩
 simp [results,Tryz.results9,go_sem,r0,r1,r2]
theorem Bw' {w:World} {N:Int} {D:Nat} {q:Rat} (hN1 : -2147483648≤N) (hN2:N≤2147483647) (hD:D≤255) (hq:As N D=q) :
   Calls Tryz.prog 12 #[.agg #[.int .i32 N,.int .u8 ((D:Nat):Int)]] w (A2' w q):=by
 have hD16:((D:Nat):Int)%16=((D%16:Nat):Int):=by omega
 have hDt:Int.tmod ((D:Nat):Int) 16=((D%16:Nat):Int):=by rw [Int.tmod_eq_emod_of_nonneg (by omega)];exact hD16
 have hk:D%16<16:=Nat.mod_lt _ (by omega)
 obtain ⟨k,ek⟩:=eY (D%16)
 rw [ek] at hD16 hDt hk
 have hw1:IntKind.i64.wrap N=N:=by
   unfold IntKind.wrap
   simp [IntKind.bits,IntKind.signed]
   omega
 have hw2:IntKind.u8.wrap ((k:Nat):Int)=((k:Nat):Int):=by
   unfold IntKind.wrap
   simp [IntKind.bits,IntKind.signed]
   omega
 have hw3:IntKind.i64.wrap ((k:Nat):Int)=((k:Nat):Int):=by
   unfold IntKind.wrap
   simp [IntKind.bits,IntKind.signed]
   omega
 have hw4:IntKind.i64.wrap (((k:Nat):Int)+1)=((k:Nat):Int)+1:=by
   unfold IntKind.wrap
   simp [IntKind.bits,IntKind.signed]
   omega
 have hq2:(N:Rat) / ((((k:Nat):Int)+1:Int):Rat)=q:=by rw [←hq];unfold As;rw [ek];rfl
 have hk1:(0:Int)<((k:Nat):Int)+1:=by omega
 have hk2:((k:Nat):Int)+1≤9223372036854775807:=by omega
 have hn1:(-9223372036854775808:Int)≤N:=by omega
 have hn2:N≤9223372036854775807:=by omega
 clear hq hN1 hN2
 replace hq2:=hid hq2
 replace ek:=hid ek
 replace hk1:=hid hk1
 replace hk2:=hid hk2
 replace hn1:=hid hn1
 replace hn2:=hid hn2
 replace hk:=hid hk
 clear hD
 obtain ⟨w1,hw⟩:=eX ((w.alloc (.cells #[.int .i32 N,.int .u8 ((D:Nat):Int)] 23)).alloc (.cells #[.bool false,.slice none 0 0,.slice none 0 0] 43))
 obtain ⟨b1,g1,g2⟩:=Ch hw
 obtain ⟨z0,z1⟩:w1.cell? ⟨w.heap.size,0,none⟩=some (.int .i32 N)∧w1.cell? ⟨w.heap.size,1,none⟩=some (.int .u8 ((D:Nat):Int)):=⟨cR _ _ 0 _ _ _ g1,cR _ _ 1 _ _ _ g1⟩
 replace b1:=hid b1
 replace g1:=hid g1
 replace g2:=hid g2
 go_enter Tryz.func12,Tryz.ntmps12
 go_upto_region 1 with fail
 rw [←hw]
 clear hw
 have HX:=hid (G4' (w:=w1) hq2.out (by have:=hk1.out;omega) hn1.out hn2.out (by have:=hk1.out;omega) hk2.out)
 go_wp2_with fail
 refine (HX.out).mono ?_
 rintro e w2 ⟨v2,rfl,hv2,b2⟩
 obtain ⟨C1,j1,C2,j2,rfl,-,-⟩:=id hv2.opened
 replace hv2:=hid hv2
 replace b2:=hid b2
 clear HX
 have DR:=(Ab' g2.out b2.out)
 have q0:w2.cell? ⟨w.heap.size+1,0,none⟩=some (.bool false):=cR _ _ _ _ _ _ DR
 have F0:w2.frozen? ⟨w.heap.size+1,0,none⟩=false:=fR w2 (w.heap.size+1) 0 _ _ DR
 have q1:w2.cell? ⟨w.heap.size+1,1,none⟩=some (.slice none 0 0):=cR _ _ _ _ _ _ DR
 have F1:w2.frozen? ⟨w.heap.size+1,1,none⟩=false:=fR w2 (w.heap.size+1) 1 _ _ DR
 have q2:w2.cell? ⟨w.heap.size+1,2,none⟩=some (.slice none 0 0):=cR _ _ _ _ _ _ DR
 have F2:w2.frozen? ⟨w.heap.size+1,2,none⟩=false:=fR w2 (w.heap.size+1) 2 _ _ DR
 have y0_2:=hid (bS b1.out b2.out)
 have FB:=y0_2.out
 have FV:=hv2.out
 obtain ⟨ue,hw⟩:=eX ((((w2.setCell ⟨w.heap.size+1,0,none⟩ (.bool (decide (q.num<0)))).setCell ⟨w.heap.size+1,1,none⟩ (.slice C1 (len q.num.natAbs) j1)).setCell ⟨w.heap.size+1,2,none⟩ (.slice C2 (len q.den) j2)))
 obtain ⟨E_ue,-,LV,BL⟩:=AE DR hw
 have FE:=hid (LV.rat FV)
 replace FB:=hid (BL _ _ (by omega) FB)
 replace E_ue:=hid E_ue
 replace hw:=hid hw
 clear DR FV LV BL
 go_wp2_with fail
 rw [←hw.out]
 obtain ⟨r0,r1,r2⟩:=Ad' E_ue.out
 refine bP (v:=.agg #[.bool (decide (q.num<0)),.slice C1 (len q.num.natAbs) j1,.slice C2 (len q.den) j2]) ?_ rfl ⟨_,rfl,FE.out,FB.out⟩
 simp [results,Tryz.results12,go_sem,r0,r1,r2]
def Cm (w:World) (lo hi:Rat) (e:Ending) (w':World):Prop:=∃ v v2,e=.returned (.tuple #[v,v2])∧Ao' w' v lo hi∧Ay' w' v2 lo hi∧Below w.heap.size w w'
theorem FI {w:World} {b:Nat} {p q:Rat} {T:TypeId} {s1 s2:Bool} {A1 A2 A3 A4:Option Addr} {n1 c1 n2 c2 n3 c3 n4 c4:Nat} (h:w.heap[b]?=some (.cells #[.bool s1,.slice A1 n1 c1,.slice A2 n2 c2,.bool s2,.slice A3 n3 c3,.slice A4 n4 c4] T (0,0)))
   (hp:Ah w (.agg #[.bool s1,.slice A1 n1 c1,.slice A2 n2 c2]) p) (hq:Ah w (.agg #[.bool s2,.slice A3 n3 c3,.slice A4 n4 c4]) q):A3' w b 0 [p,q]:=by
 obtain ⟨r0,r1,r2,r3,r4,r5⟩:=Aj h
 intro i x hi
 match i with
 | 0=>obtain rfl:=Option.some.inj hi;exact ⟨_,_,_,_,_,_,_,r0,r1,r2,hp⟩
 | 1=>obtain rfl:=Option.some.inj hi;exact ⟨_,_,_,_,_,_,_,r3,r4,r5,hq⟩
 | i+2=>simp at hi
theorem Fl' {n:Int} {q:Rat} (hq:(n:Rat)=q) (h1 : -9223372036854775808≤n) (h2:n≤9223372036854775807):Aa' q≤1:=by
 have hW:Vx.W^1=18446744073709551616:=by decide
 rw [←hq]
 unfold Vx.Aa'
 rw [Rat.num_intCast,Rat.den_intCast]
 exact Nat.max_le.2 ⟨Vx.AA (n:=1) (by rw [hW];omega),Vx.AA (n:=1) (by rw [hW];omega)⟩
theorem AN' {N:Int} {D:Nat} {q:Rat} (hN1 : -2147483648≤N) (hN2:N≤2147483647) (hq:As N D=q):Aa' q≤20:=by
 obtain ⟨x,hx⟩:=eY ((N:Rat):Rat)
 obtain ⟨y,hy⟩:=eY ((((D%16+1:Nat):Int):Rat):Rat)
 have e:q=x / y:=by rw [←hq];unfold As;rw [hx,hy]
 have h1:=Fl' hx (by omega) (by omega)
 have h2:=Fl' hy (by omega) (by omega)
 rw [e]
 have:=Vx.AZ x y
 omega
theorem H9 {w:World} {b o c n:Nat} {x0 lo hi:Rat} {l:List Rat} (el:leastOf x0 l=lo) (eh:greatestOf x0 l=hi) (hl:A3' w b o (x0::l)) (hn:n=l.length+1) (hn2:l.length≤1000) (hs:∀ y∈x0::l,Aa' y≤16777216) :
   Calls Tryz.prog 78 #[.slice (some ⟨b,o,none⟩) n c] w (B3' w lo hi):=by
 subst hn
 exact EI' el eh hl hn2 hs
theorem II {wa w:World} {M0 M1:Int} {D0 D1 be R1 R2:Nat} {x y lo hi:Rat} {bx:Nat} {A1 B1 A2 B2:Option Addr} {c1 d1 c2 d2:Nat} {y0 y4 y5 y7 y8 y9 y10 y11 y12 y13 y14 y15 y16 y17 y18 y19 y20 y21 y22 y23 y24 y25 y26 y27 y28 y29 y30 y31 y32 y33 y34:Value} (HB:Below wa.heap.size wa w) (hbe:w.heap[be]?=some (.cells #[.int .i32 M0,.int .u8 ((D0:Nat):Int),.int .i32 M1,.int .u8 ((D1:Nat):Int)] 25 (0,0))) (hR1:w.heap[R1]?=some (.cells #[.bool false,.slice none 0 0,.slice none 0 0,.bool false,.slice none 0 0,.slice none 0 0] 37 (0,0))) (hR2:w.heap[R2]?=some (.cells #[.bool false,.slice none 0 0,.slice none 0 0,.bool false,.slice none 0 0,.slice none 0 0] 45 (0,0))) (l1:wa.heap.size≤R1) (l2:R1<R2) (l3:be<R1) (el:leastOf x [y]=lo) (eh:greatestOf x [y]=hi) (h1 : -2147483648≤M0) (h2:M0≤2147483647) (h3:D0≤255) (h4 : -2147483648≤M1) (h5:M1≤2147483647) (h6:D1≤255) (ex:As M0 D0=x) (ey:As M1 D1=y) (hbx:w.heap[bx]?=some (.cells #[.bool (decide (lo.num<0)),.slice A1 (Vx.len lo.num.natAbs) c1,.slice B1 (Vx.len (below lo.den)) d1,.bool (decide (hi.num<0)),.slice A2 (Vx.len hi.num.natAbs) c2,.slice B2 (Vx.len (below hi.den)) d2] 37 (0,0))) (hD:Ao' w (.agg #[.bool (decide (lo.num<0)),.slice A1 (Vx.len lo.num.natAbs) c1,.slice B1 (Vx.len (below lo.den)) d1,.bool (decide (hi.num<0)),.slice A2 (Vx.len hi.num.natAbs) c2,.slice B2 (Vx.len (below hi.den)) d2]) lo hi) (l4:R2<bx) :
   (codeAt 4 Tryz.f33).wp Tryz.prog (bodyPost Tryz.prog Tryz.f33 (Cm wa lo hi)) { tmps:=#[y0,.pointer (some ⟨be,0,none⟩),.pointer (some ⟨R1,0,none⟩),.pointer (some ⟨R2,0,none⟩),y4,y5,.pointer (some ⟨bx,0,none⟩),y7,y8,y9,y10,y11,y12,y13,y14,y15,y16,y17,y18,y19,y20,y21,y22,y23,y24,y25,y26,y27,y28,y29,y30,y31,y32,y33,y34],defers:=[] } w:=by
 have kx:Aa' x≤20:=AN' h1 h2 ex
 have ky:Aa' y≤20:=AN' h4 h5 ey
 have sE:∀ q∈x::[y],Aa' q≤16777216:=by
   intro q hq
   simp only [List.mem_cons,List.not_mem_nil,or_false] at hq
   rcases hq with rfl | rfl <;> omega
 have hbel:=Al' hbe
 have hbxl:=Al' hbx
 have hbeR:be<R2:=by omega
 obtain ⟨z0,z1,z2,z3⟩:w.cell? ⟨be,0,none⟩=some (.int .i32 M0)∧w.cell? ⟨be,1,none⟩=some (.int .u8 ((D0:Nat):Int))∧w.cell? ⟨be,2,none⟩=some (.int .i32 M1)∧w.cell? ⟨be,3,none⟩=some (.int .u8 ((D1:Nat):Int)):=⟨cR _ _ 0 _ _ _ hbe,cR _ _ 1 _ _ _ hbe,cR _ _ 2 _ _ _ hbe,cR _ _ 3 _ _ _ hbe⟩
 obtain ⟨x0,x1,x2,x3,x4,x5⟩:=Aj hbx
 clear kx ky
 replace HB:=hid HB
 replace hbe:=hid hbe
 replace hR1:=hid hR1
 replace hR2:=hid hR2
 replace hbx:=hid hbx
 replace hD:=hid hD
 replace el:=hid el
 replace eh:=hid eh
 replace ex:=hid ex
 replace ey:=hid ey
 replace sE:=hid sE
 replace h1:=hid h1
 replace h2:=hid h2
 replace h3:=hid h3
 replace h4:=hid h4
 replace h5:=hid h5
 replace h6:=hid h6
 show Code.wp _ (Code.seq _ _) _ _ _
 go_wp2_with fail
 refine wp_region_held_drew (S:=(fun w'=>(w'.cell? ⟨be,0,none⟩=w.cell? ⟨be,0,none⟩∧w'.cell? ⟨be,1,none⟩=w.cell? ⟨be,1,none⟩∧w'.cell? ⟨be,2,none⟩=w.cell? ⟨be,2,none⟩∧w'.cell? ⟨be,3,none⟩=w.cell? ⟨be,3,none⟩∧w'.cell? ⟨bx,0,none⟩=w.cell? ⟨bx,0,none⟩∧w'.cell? ⟨bx,1,none⟩=w.cell? ⟨bx,1,none⟩∧w'.cell? ⟨bx,2,none⟩=w.cell? ⟨bx,2,none⟩∧w'.cell? ⟨bx,3,none⟩=w.cell? ⟨bx,3,none⟩∧w'.cell? ⟨bx,4,none⟩=w.cell? ⟨bx,4,none⟩∧w'.cell? ⟨bx,5,none⟩=w.cell? ⟨bx,5,none⟩))) (by kernel_rfl) ?_ (fun hHeld=>?_)
 · (try dsimp only)
   exact ⟨rfl,rfl,rfl,rfl,rfl,rfl,rfl,rfl,rfl,rfl⟩
 obtain ⟨w1,hw1⟩:=eX w.drew
 have b1:Hid (Below w.heap.size w w1):=hid (by rw [hw1];exact ⟨rfl,rfl,rfl,nL _,fun _ _=>rfl⟩)
 rw [←hw1] at hHeld ⊢
 clear hw1
 have lbW:wa.heap.size≤w1.heap.size:=(bS HB.out b1.out).size
 have lbS:w.heap.size≤w1.heap.size:=b1.out.size
 have lc_R1:R1<w1.heap.size:=Al' (Ab' hR1.out b1.out)
 have lc_R2:R2<w1.heap.size:=Al' (Ab' hR2.out b1.out)
 refine tk (i:=0) (h:=?_)
 try simp only [Act.put,lt,ly,lu]
 refine tk (i:=1) (h:=?_)
 try simp only [Act.put,lt,ly,lu]
 refine tk (i:=2) (h:=?_)
 try simp only [Act.put,lt,ly,lu]
 refine tk (i:=4) (h:=?_)
 try simp only [Act.put,lt,ly,lu]
 refine tk (i:=5) (h:=?_)
 try simp only [Act.put,lt,ly,lu]
 refine rdz (i:=3) (h:=fun K hK=>?_)
 go_simp;go_at_call 12
 refine (Bw' h1.out h2.out h3.out ex.out).mono ?_
 rintro e w2 ⟨v2,rfl,hv2,b2⟩
 obtain ⟨C1,j1,C2,j2,rfl,-,-⟩:=id hv2.opened
 replace hv2:=hid hv2
 replace b2:=hid b2
 have y0_2:=hid (bS b1.out b2.out)
 have hS:=y0_2.out
 clear hHeld
 refine hK.out _ _ ?_ (fun hHeld=>?_)
 · (try dsimp only)
   exact ⟨hS.cell (p:=⟨be,0,none⟩) hbel,hS.cell (p:=⟨be,1,none⟩) hbel,hS.cell (p:=⟨be,2,none⟩) hbel,hS.cell (p:=⟨be,3,none⟩) hbel,hS.cell (p:=⟨bx,0,none⟩) hbxl,hS.cell (p:=⟨bx,1,none⟩) hbxl,hS.cell (p:=⟨bx,2,none⟩) hbxl,hS.cell (p:=⟨bx,3,none⟩) hbxl,hS.cell (p:=⟨bx,4,none⟩) hbxl,hS.cell (p:=⟨bx,5,none⟩) hbxl⟩
 clear hK K hS;try simp only [Act.put,lt,ly,lu]
 refine rdz (i:=6) (h:=fun K hK=>?_)
 go_simp;go_at_call 12
 refine (Bw' h4.out h5.out h6.out ey.out).mono ?_
 rintro e w3 ⟨v3,rfl,hv3,b3⟩
 obtain ⟨C3,j3,C4,j4,rfl,-,-⟩:=id hv3.opened
 replace hv3:=hid hv3
 replace b3:=hid b3
 have y0_3:=hid (bS y0_2.out b3.out)
 have hS:=y0_3.out
 clear hHeld
 refine hK.out _ _ ?_ (fun hHeld=>?_)
 · (try dsimp only)
   exact ⟨hS.cell (p:=⟨be,0,none⟩) hbel,hS.cell (p:=⟨be,1,none⟩) hbel,hS.cell (p:=⟨be,2,none⟩) hbel,hS.cell (p:=⟨be,3,none⟩) hbel,hS.cell (p:=⟨bx,0,none⟩) hbxl,hS.cell (p:=⟨bx,1,none⟩) hbxl,hS.cell (p:=⟨bx,2,none⟩) hbxl,hS.cell (p:=⟨bx,3,none⟩) hbxl,hS.cell (p:=⟨bx,4,none⟩) hbxl,hS.cell (p:=⟨bx,5,none⟩) hbxl⟩
 clear hK K hS;try simp only [Act.put,lt,ly,lu]
 refine rdz (i:=7) (h:=fun K hK=>?_)
 have y1_3:=hid (bS b2.out b3.out)
 have lb_sl:w1.heap.size≤w3.heap.size:=y1_3.out.size
 go_simp
 obtain ⟨w4,hw4⟩:=eX (w3.alloc (.cells #[.bool (decide (x.num<0)),.slice C1 (len x.num.natAbs) j1,.slice C2 (len x.den) j2,.bool (decide (y.num<0)),.slice C3 (len y.num.natAbs) j3,.slice C4 (len y.den) j4] 43))
 have b4:=hid (AO' hw4)
 have L4:=hid (AR' hw4)
 rw [←hw4]
 clear hw4
 have y0_4:=hid (bS y0_3.out b4.out)
 have hS:=y0_4.out
 clear hHeld
 refine hK.out _ _ ?_ (fun hHeld=>?_)
 · (try dsimp only)
   exact ⟨hS.cell (p:=⟨be,0,none⟩) hbel,hS.cell (p:=⟨be,1,none⟩) hbel,hS.cell (p:=⟨be,2,none⟩) hbel,hS.cell (p:=⟨be,3,none⟩) hbel,hS.cell (p:=⟨bx,0,none⟩) hbxl,hS.cell (p:=⟨bx,1,none⟩) hbxl,hS.cell (p:=⟨bx,2,none⟩) hbxl,hS.cell (p:=⟨bx,3,none⟩) hbxl,hS.cell (p:=⟨bx,4,none⟩) hbxl,hS.cell (p:=⟨bx,5,none⟩) hbxl⟩
 clear hK K hS;try simp only [Act.put,lt,ly,lu]
 refine rdz (i:=8) (h:=fun K hK=>?_)
 have y2_4:=hid (bS b3.out b4.out)
 go_simp;go_at_call 78
 refine (H9 (n:=2) el.out eh.out (FI L4.out (hv2.out.keep y2_4.out) (hv3.out.keep b4.out)) rfl (by simp) sE.out).mono ?_
 rintro e w5 ⟨v5,rfl,hv5,b5⟩
 obtain ⟨C5,j5,C6,j6,C7,j7,C8,j8,rfl,-,-,-,-⟩:=id hv5.opened
 replace hv5:=hid hv5
 replace b5:=hid b5
 have y0_5:=hid (bS y0_4.out b5.out)
 have hS:=y0_5.out
 clear hHeld
 refine hK.out _ _ ?_ (fun hHeld=>?_)
 · (try dsimp only)
   exact ⟨hS.cell (p:=⟨be,0,none⟩) hbel,hS.cell (p:=⟨be,1,none⟩) hbel,hS.cell (p:=⟨be,2,none⟩) hbel,hS.cell (p:=⟨be,3,none⟩) hbel,hS.cell (p:=⟨bx,0,none⟩) hbxl,hS.cell (p:=⟨bx,1,none⟩) hbxl,hS.cell (p:=⟨bx,2,none⟩) hbxl,hS.cell (p:=⟨bx,3,none⟩) hbxl,hS.cell (p:=⟨bx,4,none⟩) hbxl,hS.cell (p:=⟨bx,5,none⟩) hbxl⟩
 clear hK K hS;try simp only [Act.put,lt,ly,lu]
 refine rdz (i:=9) (h:=fun K hK=>?_)
 have DBq6:=Ab' hR1.out y0_5.out
 have q0:w5.cell? ⟨R1,0,none⟩=some (.bool false):=cR _ _ _ _ _ _ DBq6
 have F0:w5.frozen? ⟨R1,0,none⟩=false:=fR w5 (R1) 0 _ _ DBq6
 have q1:w5.cell? ⟨R1,1,none⟩=some (.slice none 0 0):=cR _ _ _ _ _ _ DBq6
 have F1:w5.frozen? ⟨R1,1,none⟩=false:=fR w5 (R1) 1 _ _ DBq6
 have q2:w5.cell? ⟨R1,2,none⟩=some (.slice none 0 0):=cR _ _ _ _ _ _ DBq6
 have F2:w5.frozen? ⟨R1,2,none⟩=false:=fR w5 (R1) 2 _ _ DBq6
 have q3:w5.cell? ⟨R1,3,none⟩=some (.bool false):=cR _ _ _ _ _ _ DBq6
 have F3:w5.frozen? ⟨R1,3,none⟩=false:=fR w5 (R1) 3 _ _ DBq6
 have q4:w5.cell? ⟨R1,4,none⟩=some (.slice none 0 0):=cR _ _ _ _ _ _ DBq6
 have F4:w5.frozen? ⟨R1,4,none⟩=false:=fR w5 (R1) 4 _ _ DBq6
 have q5:w5.cell? ⟨R1,5,none⟩=some (.slice none 0 0):=cR _ _ _ _ _ _ DBq6
 have F5:w5.frozen? ⟨R1,5,none⟩=false:=fR w5 (R1) 5 _ _ DBq6
 have hS:=y0_5.out
 have hz6:w.heap.size≤w5.heap.size:=hS.size
 go_simp
 clear q0 F0 q1 F1 q2 F2 q3 F3 q4 F4 q5 F5
 have FV:=hid (hD.out.keep y0_5.out)
 have FB:=hid (bS HB.out y0_5.out)
 obtain ⟨w6,hw⟩:=eX (((((((w5.setCell ⟨R1,0,none⟩ (.bool (decide (lo.num<0)))).setCell ⟨R1,1,none⟩ (.slice A1 (Vx.len lo.num.natAbs) c1)).setCell ⟨R1,2,none⟩ (.slice B1 (Vx.len (below lo.den)) d1)).setCell ⟨R1,3,none⟩ (.bool (decide (hi.num<0)))).setCell ⟨R1,4,none⟩ (.slice A2 (Vx.len hi.num.natAbs) c2)).setCell ⟨R1,5,none⟩ (.slice B2 (Vx.len (below hi.den)) d2)))
 have hse6:w6.heap.size=w5.heap.size:=by rw [hw];simp
 obtain ⟨E,OT,LV,BL⟩:=AF DBq6 hw
 rw [←hw]
 clear hw
 have L6:=hid E
 have FB6:=hid (BL _ _ (by omega) FB.out)
 have LKR26:=hid (OT _ _ (by omega) (Ab' hR2.out y0_5.out))
 have KVbx6:=hid (LV.box (hD.out.keep y0_5.out))
 have KVE6:=hid (LV.rbox hv5.out)
 have s0_6:w6.cell? ⟨be,0,none⟩=w.cell? ⟨be,0,none⟩:=(cell_other OT (by omega) (ltl hbel hz6)).trans (hS.cell (p:=⟨be,0,none⟩) hbel)
 have s1_6:w6.cell? ⟨be,1,none⟩=w.cell? ⟨be,1,none⟩:=(cell_other OT (by omega) (ltl hbel hz6)).trans (hS.cell (p:=⟨be,1,none⟩) hbel)
 have s2_6:w6.cell? ⟨be,2,none⟩=w.cell? ⟨be,2,none⟩:=(cell_other OT (by omega) (ltl hbel hz6)).trans (hS.cell (p:=⟨be,2,none⟩) hbel)
 have s3_6:w6.cell? ⟨be,3,none⟩=w.cell? ⟨be,3,none⟩:=(cell_other OT (by omega) (ltl hbel hz6)).trans (hS.cell (p:=⟨be,3,none⟩) hbel)
 have s4_6:w6.cell? ⟨bx,0,none⟩=w.cell? ⟨bx,0,none⟩:=(cell_other OT (by omega) (ltl hbxl hz6)).trans (hS.cell (p:=⟨bx,0,none⟩) hbxl)
 have s5_6:w6.cell? ⟨bx,1,none⟩=w.cell? ⟨bx,1,none⟩:=(cell_other OT (by omega) (ltl hbxl hz6)).trans (hS.cell (p:=⟨bx,1,none⟩) hbxl)
 have s6_6:w6.cell? ⟨bx,2,none⟩=w.cell? ⟨bx,2,none⟩:=(cell_other OT (by omega) (ltl hbxl hz6)).trans (hS.cell (p:=⟨bx,2,none⟩) hbxl)
 have s7_6:w6.cell? ⟨bx,3,none⟩=w.cell? ⟨bx,3,none⟩:=(cell_other OT (by omega) (ltl hbxl hz6)).trans (hS.cell (p:=⟨bx,3,none⟩) hbxl)
 have s8_6:w6.cell? ⟨bx,4,none⟩=w.cell? ⟨bx,4,none⟩:=(cell_other OT (by omega) (ltl hbxl hz6)).trans (hS.cell (p:=⟨bx,4,none⟩) hbxl)
 have s9_6:w6.cell? ⟨bx,5,none⟩=w.cell? ⟨bx,5,none⟩:=(cell_other OT (by omega) (ltl hbxl hz6)).trans (hS.cell (p:=⟨bx,5,none⟩) hbxl)
 refine hK.out _ _ ?_ (fun hHeld2=>?_)
 · (try dsimp only)
   exact ⟨s0_6,s1_6,s2_6,s3_6,s4_6,s5_6,s6_6,s7_6,s8_6,s9_6⟩
 clear hK K hHeld hS OT LV BL FV FB E DBq6
 try simp only [Act.put,lt,ly,lu]
 have hHeld:=hHeld2
 clear hHeld2
 refine rdz (i:=10) (h:=fun K hK=>?_)
 have DBq8:=Ab' LKR26.out (Below.refl _ w6)
 have q0:w6.cell? ⟨R2,0,none⟩=some (.bool false):=cR _ _ _ _ _ _ DBq8
 have F0:w6.frozen? ⟨R2,0,none⟩=false:=fR w6 (R2) 0 _ _ DBq8
 have q1:w6.cell? ⟨R2,1,none⟩=some (.slice none 0 0):=cR _ _ _ _ _ _ DBq8
 have F1:w6.frozen? ⟨R2,1,none⟩=false:=fR w6 (R2) 1 _ _ DBq8
 have q2:w6.cell? ⟨R2,2,none⟩=some (.slice none 0 0):=cR _ _ _ _ _ _ DBq8
 have F2:w6.frozen? ⟨R2,2,none⟩=false:=fR w6 (R2) 2 _ _ DBq8
 have q3:w6.cell? ⟨R2,3,none⟩=some (.bool false):=cR _ _ _ _ _ _ DBq8
 have F3:w6.frozen? ⟨R2,3,none⟩=false:=fR w6 (R2) 3 _ _ DBq8
 have q4:w6.cell? ⟨R2,4,none⟩=some (.slice none 0 0):=cR _ _ _ _ _ _ DBq8
 have F4:w6.frozen? ⟨R2,4,none⟩=false:=fR w6 (R2) 4 _ _ DBq8
 have q5:w6.cell? ⟨R2,5,none⟩=some (.slice none 0 0):=cR _ _ _ _ _ _ DBq8
 have F5:w6.frozen? ⟨R2,5,none⟩=false:=fR w6 (R2) 5 _ _ DBq8
 have hz7:w.heap.size≤w6.heap.size:=nT hz6 (Nat.le_of_eq hse6.symm)
 go_simp
 clear q0 F0 q1 F1 q2 F2 q3 F3 q4 F4 q5 F5
 have FV:=hid KVE6.out
 have FB:=hid FB6.out
 obtain ⟨w7,hw⟩:=eX (((((((w6.setCell ⟨R2,0,none⟩ (.bool (decide (lo.num<0)))).setCell ⟨R2,1,none⟩ (.slice C5 (len lo.num.natAbs) j5)).setCell ⟨R2,2,none⟩ (.slice C6 (len lo.den) j6)).setCell ⟨R2,3,none⟩ (.bool (decide (hi.num<0)))).setCell ⟨R2,4,none⟩ (.slice C7 (len hi.num.natAbs) j7)).setCell ⟨R2,5,none⟩ (.slice C8 (len hi.den) j8)))
 have hse7:w7.heap.size=w6.heap.size:=by rw [hw];simp
 obtain ⟨E,OT,LV,BL⟩:=AF DBq8 hw
 rw [←hw]
 clear hw
 have L7:=hid E
 have FB7:=hid (BL _ _ (by omega) FB.out)
 have LKR17:=hid (OT _ _ (by omega) (Ab' L6.out (Below.refl _ w6)))
 have KVbx7:=hid (LV.box KVbx6.out)
 have KVE7:=hid (LV.rbox KVE6.out)
 have s0_7:w7.cell? ⟨be,0,none⟩=w.cell? ⟨be,0,none⟩:=(cell_other OT (by omega) (ltl hbel hz7)).trans s0_6
 have s1_7:w7.cell? ⟨be,1,none⟩=w.cell? ⟨be,1,none⟩:=(cell_other OT (by omega) (ltl hbel hz7)).trans s1_6
 have s2_7:w7.cell? ⟨be,2,none⟩=w.cell? ⟨be,2,none⟩:=(cell_other OT (by omega) (ltl hbel hz7)).trans s2_6
 have s3_7:w7.cell? ⟨be,3,none⟩=w.cell? ⟨be,3,none⟩:=(cell_other OT (by omega) (ltl hbel hz7)).trans s3_6
 have s4_7:w7.cell? ⟨bx,0,none⟩=w.cell? ⟨bx,0,none⟩:=(cell_other OT (by omega) (ltl hbxl hz7)).trans s4_6
 have s5_7:w7.cell? ⟨bx,1,none⟩=w.cell? ⟨bx,1,none⟩:=(cell_other OT (by omega) (ltl hbxl hz7)).trans s5_6
 have s6_7:w7.cell? ⟨bx,2,none⟩=w.cell? ⟨bx,2,none⟩:=(cell_other OT (by omega) (ltl hbxl hz7)).trans s6_6
 have s7_7:w7.cell? ⟨bx,3,none⟩=w.cell? ⟨bx,3,none⟩:=(cell_other OT (by omega) (ltl hbxl hz7)).trans s7_6
 have s8_7:w7.cell? ⟨bx,4,none⟩=w.cell? ⟨bx,4,none⟩:=(cell_other OT (by omega) (ltl hbxl hz7)).trans s8_6
 have s9_7:w7.cell? ⟨bx,5,none⟩=w.cell? ⟨bx,5,none⟩:=(cell_other OT (by omega) (ltl hbxl hz7)).trans s9_6
 refine hK.out _ _ ?_ (fun hHeld2=>?_)
 · (try dsimp only)
   exact ⟨s0_7,s1_7,s2_7,s3_7,s4_7,s5_7,s6_7,s7_7,s8_7,s9_7⟩
 clear hK K hHeld  OT LV BL FV FB E DBq8
 try simp only [Act.put,lt,ly,lu]
 have hHeld:=hHeld2
 clear hHeld2
 refine wpAnyH_done (by kernel_rfl) ?_ _
 clear hHeld
 have HBX:=hid KVbx7.out
 have HRB:=hid KVE7.out
 have FB:=hid FB7.out
 obtain ⟨r0,r1,r2,r3,r4,r5⟩:=Aj LKR17.out
 obtain ⟨q0,q1,q2,q3,q4,q5⟩:=Aj L7.out
 go_wp2_with fail
 refine bP (v:=.tuple #[.agg #[.bool (decide (lo.num<0)),.slice A1 (Vx.len lo.num.natAbs) c1,.slice B1 (Vx.len (below lo.den)) d1,.bool (decide (hi.num<0)),.slice A2 (Vx.len hi.num.natAbs) c2,.slice B2 (Vx.len (below hi.den)) d2],.agg #[.bool (decide (lo.num<0)),.slice C5 (len lo.num.natAbs) j5,.slice C6 (len lo.den) j6,.bool (decide (hi.num<0)),.slice C7 (len hi.num.natAbs) j7,.slice C8 (len hi.den) j8]]) ?_ rfl ⟨_,_,rfl,HBX.out,HRB.out,FB.out⟩
 simp [results,Tryz.results33,go_sem,r0,r1,r2,r3,r4,r5,q0,q1,q2,q3,q4,q5]
theorem Fm {wa w:World} {M0 M1:Int} {D0 D1 be R1 R2:Nat} {x y lo hi:Rat} {bl bh:Nat} {A1 B1 A2 B2:Option Addr} {c1 d1 c2 d2:Nat} {y0 y6 y7 y8 y9 y10 y11 y12 y13 y14 y15 y16 y17 y18 y19 y20 y21 y22 y23 y24 y25 y26 y27 y28 y29 y30 y31 y32 y33 y34:Value} (HB:Below wa.heap.size wa w) (hbe:w.heap[be]?=some (.cells #[.int .i32 M0,.int .u8 ((D0:Nat):Int),.int .i32 M1,.int .u8 ((D1:Nat):Int)] 25 (0,0))) (hR1:w.heap[R1]?=some (.cells #[.bool false,.slice none 0 0,.slice none 0 0,.bool false,.slice none 0 0,.slice none 0 0] 37 (0,0))) (hR2:w.heap[R2]?=some (.cells #[.bool false,.slice none 0 0,.slice none 0 0,.bool false,.slice none 0 0,.slice none 0 0] 45 (0,0))) (l1:wa.heap.size≤R1) (l2:R1<R2) (l3:be<R1) (el:leastOf x [y]=lo) (eh:greatestOf x [y]=hi) (h1 : -2147483648≤M0) (h2:M0≤2147483647) (h3:D0≤255) (h4 : -2147483648≤M1) (h5:M1≤2147483647) (h6:D1≤255) (ex:As M0 D0=x) (ey:As M1 D1=y) (hbl:w.heap[bl]?=some (.cells #[.bool (decide (lo.num<0)),.slice A1 (Vx.len lo.num.natAbs) c1,.slice B1 (Vx.len (below lo.den)) d1] 35 (0,0))) (hL:Ac' w (.agg #[.bool (decide (lo.num<0)),.slice A1 (Vx.len lo.num.natAbs) c1,.slice B1 (Vx.len (below lo.den)) d1]) lo) (hbh:w.heap[bh]?=some (.cells #[.bool (decide (hi.num<0)),.slice A2 (Vx.len hi.num.natAbs) c2,.slice B2 (Vx.len (below hi.den)) d2] 35 (0,0))) (hH:Ac' w (.agg #[.bool (decide (hi.num<0)),.slice A2 (Vx.len hi.num.natAbs) c2,.slice B2 (Vx.len (below hi.den)) d2]) hi) :
   (codeAt 3 Tryz.f33).wp Tryz.prog (bodyPost Tryz.prog Tryz.f33 (Cm wa lo hi)) { tmps:=#[y0,.pointer (some ⟨be,0,none⟩),.pointer (some ⟨R1,0,none⟩),.pointer (some ⟨R2,0,none⟩),.pointer (some ⟨bl,0,none⟩),.pointer (some ⟨bh,0,none⟩),y6,y7,y8,y9,y10,y11,y12,y13,y14,y15,y16,y17,y18,y19,y20,y21,y22,y23,y24,y25,y26,y27,y28,y29,y30,y31,y32,y33,y34],defers:=[] } w:=by
 have kx:Aa' x≤20:=AN' h1 h2 ex
 have ky:Aa' y≤20:=AN' h4 h5 ey
 have hlh:lo≤hi:=by rw [←el,←eh];exact Co _ _
 have sl:Aa' lo≤34359738368:=by
   have:=(BE' x [y] (N:=20) (by intro q hq;simp only [List.mem_cons,List.not_mem_nil,or_false] at hq;rcases hq with rfl | rfl <;> omega) 1).1
   rw [List.take_of_length_le (by simp),el] at this
   omega
 have sh:Aa' hi≤34359738368:=by
   have:=(BE' x [y] (N:=20) (by intro q hq;simp only [List.mem_cons,List.not_mem_nil,or_false] at hq;rcases hq with rfl | rfl <;> omega) 1).2
   rw [List.take_of_length_le (by simp),eh] at this
   omega
 obtain ⟨z0,z1,z2⟩:=Ad' hbl
 obtain ⟨x0,x1,x2⟩:=Ad' hbh
 clear kx ky
 replace HB:=hid HB
 replace hbe:=hid hbe
 replace hR1:=hid hR1
 replace hR2:=hid hR2
 replace hbl:=hid hbl
 replace hbh:=hid hbh
 replace hL:=hid hL
 replace hH:=hid hH
 replace el:=hid el
 replace eh:=hid eh
 replace ex:=hid ex
 replace ey:=hid ey
 replace sl:=hid sl
 replace sh:=hid sh
 replace hlh:=hid hlh
 replace h1:=hid h1
 replace h2:=hid h2
 replace h3:=hid h3
 replace h4:=hid h4
 replace h5:=hid h5
 replace h6:=hid h6
 show Code.wp _ (Code.seq _ _) _ _ _
 refine wp_seq_k ?_
 intro G hG
 replace hG:=hid hG
 have HX:=hid (Fd hL.out hH.out sl.out sh.out hlh.out)
 go_wp2_with fail
 refine (HX.out).mono ?_
 rintro e w1 ⟨v1,rfl,hv1,b1⟩
 obtain ⟨C1,j1,C2,j2,C3,j3,C4,j4,rfl,-,-,-,-⟩:=id hv1.opened
 replace hv1:=hid hv1
 replace b1:=hid b1
 clear HX
 go_wp2_with fail
 obtain ⟨w2,hw2⟩:=eX (w1.alloc (.cells #[.bool (decide (lo.num<0)),.slice C1 (Vx.len lo.num.natAbs) j1,.slice C2 (Vx.len (below lo.den)) j2,.bool (decide (hi.num<0)),.slice C3 (Vx.len hi.num.natAbs) j3,.slice C4 (Vx.len (below hi.den)) j4] 37))
 have b2:=hid (AO' hw2)
 have L2:=hid (AR' hw2)
 rw [←hw2]
 clear hw2
 refine hG.out _ _ ?_
 have y0_2:=hid (bS b1.out b2.out)
 have l4:=Al' (Ab' hR2.out b1.out)
 exact II (bS HB.out y0_2.out) (Ab' hbe.out y0_2.out) (Ab' hR1.out y0_2.out) (Ab' hR2.out y0_2.out) l1 l2 l3 el.out eh.out h1.out h2.out h3.out h4.out h5.out h6.out ex.out ey.out L2.out (hv1.out.keep b2.out) l4
theorem H9' {wa w:World} {M0 M1:Int} {D0 D1 be R1 R2:Nat} {x y lo hi:Rat} {bl bh:Nat} {A1 B1 A2 B2:Option Addr} {c1 d1 c2 d2:Nat} {y0 y6 y7 y8 y9 y10 y11 y12 y13 y14 y15 y16 y17 y18 y19 y20 y21 y22 y23 y24 y25 y26 y27 y28 y29 y30 y31 y32 y33 y34:Value} (HB:Below wa.heap.size wa w) (hbe:w.heap[be]?=some (.cells #[.int .i32 M0,.int .u8 ((D0:Nat):Int),.int .i32 M1,.int .u8 ((D1:Nat):Int)] 25 (0,0))) (hR1:w.heap[R1]?=some (.cells #[.bool false,.slice none 0 0,.slice none 0 0,.bool false,.slice none 0 0,.slice none 0 0] 37 (0,0))) (hR2:w.heap[R2]?=some (.cells #[.bool false,.slice none 0 0,.slice none 0 0,.bool false,.slice none 0 0,.slice none 0 0] 45 (0,0))) (l1:wa.heap.size≤R1) (l2:R1<R2) (l3:be<R1) (el:leastOf x [y]=lo) (eh:greatestOf x [y]=hi) (h1 : -2147483648≤M0) (h2:M0≤2147483647) (h3:D0≤255) (h4 : -2147483648≤M1) (h5:M1≤2147483647) (h6:D1≤255) (ex:As M0 D0=x) (ey:As M1 D1=y) (hbl:w.heap[bl]?=some (.cells #[.bool (decide (x.num<0)),.slice A1 (Vx.len x.num.natAbs) c1,.slice B1 (Vx.len (below x.den)) d1] 35 (0,0))) (hL:Ac' w (.agg #[.bool (decide (x.num<0)),.slice A1 (Vx.len x.num.natAbs) c1,.slice B1 (Vx.len (below x.den)) d1]) x) (hbh:w.heap[bh]?=some (.cells #[.bool (decide (y.num<0)),.slice A2 (Vx.len y.num.natAbs) c2,.slice B2 (Vx.len (below y.den)) d2] 35 (0,0))) (hH:Ac' w (.agg #[.bool (decide (y.num<0)),.slice A2 (Vx.len y.num.natAbs) c2,.slice B2 (Vx.len (below y.den)) d2]) y) (lhl:bh≠bl) (lA:R2<bl) (lB:R2<bh) (hxy:¬ y<x) :
   (codeAt 2 Tryz.f33).wp Tryz.prog (bodyPost Tryz.prog Tryz.f33 (Cm wa lo hi)) { tmps:=#[y0,.pointer (some ⟨be,0,none⟩),.pointer (some ⟨R1,0,none⟩),.pointer (some ⟨R2,0,none⟩),.pointer (some ⟨bl,0,none⟩),.pointer (some ⟨bh,0,none⟩),y6,y7,y8,y9,y10,y11,y12,y13,y14,y15,y16,y17,y18,y19,y20,y21,y22,y23,y24,y25,y26,y27,y28,y29,y30,y31,y32,y33,y34],defers:=[] } w:=by
 have kx:Aa' x≤536870912:=by have:=AN' h1 h2 ex;omega
 have ky:Aa' y≤536870912:=by have:=AN' h4 h5 ey;omega
 obtain ⟨cc,hcc⟩:=eY (cmpQ x y:Int)
 have hd:decide (cc>0)=false:=dF_ (by rw [←hcc,Bb];exact hxy)
 have hd2:¬ cc>0:=of_decide_eq_false hd
 obtain rfl:x=lo:=by rw [←el];unfold leastOf;simp only [List.foldl_cons,List.foldl_nil];rw [if_neg hxy]
 obtain rfl:y=hi:=by rw [←eh];unfold greatestOf;simp only [List.foldl_cons,List.foldl_nil];split <;> grind
 obtain ⟨z0,z1,z2⟩:=Ad' hbl
 obtain ⟨x0,x1,x2⟩:=Ad' hbh
 replace HB:=hid HB
 replace hbe:=hid hbe
 replace hR1:=hid hR1
 replace hR2:=hid hR2
 replace hbl:=hid hbl
 replace hbh:=hid hbh
 replace hL:=hid hL
 replace hH:=hid hH
 replace el:=hid el
 replace eh:=hid eh
 replace ex:=hid ex
 replace ey:=hid ey
 replace kx:=hid kx
 replace ky:=hid ky
 replace hcc:=hid hcc
 replace hxy:=hid hxy
 replace h1:=hid h1
 replace h2:=hid h2
 replace h3:=hid h3
 replace h4:=hid h4
 replace h5:=hid h5
 replace h6:=hid h6
 show Code.wp _ (Code.seq _ _) _ _ _
 refine wp_seq_k ?_
 intro G hG
 replace hG:=hid hG
 have HX:=hid (Bf' hcc.out hL.out hH.out kx.out ky.out)
 go_wp2_with fail
 refine (HX.out).mono ?_
 rintro e w1 ⟨rfl,b1⟩
 replace b1:=hid b1
 clear HX
 clear z0 z1 z2 x0 x1 x2
 go_wp2_with fail
 refine hG.out _ _ ?_
 exact Fm (bS HB.out b1.out) (Ab' hbe.out b1.out) (Ab' hR1.out b1.out) (Ab' hR2.out b1.out) l1 l2 l3 el.out eh.out h1.out h2.out h3.out h4.out h5.out h6.out ex.out ey.out (Ab' hbl.out b1.out) (hL.out.keep b1.out) (Ab' hbh.out b1.out) (hH.out.keep b1.out)
theorem Ia {wa w:World} {M0 M1:Int} {D0 D1 be R1 R2:Nat} {x y lo hi:Rat} {bl bh:Nat} {A1 B1 A2 B2:Option Addr} {c1 d1 c2 d2:Nat} {y0 y6 y7 y8 y9 y10 y11 y12 y13 y14 y15 y16 y17 y18 y19 y20 y21 y22 y23 y24 y25 y26 y27 y28 y29 y30 y31 y32 y33 y34:Value} (HB:Below wa.heap.size wa w) (hbe:w.heap[be]?=some (.cells #[.int .i32 M0,.int .u8 ((D0:Nat):Int),.int .i32 M1,.int .u8 ((D1:Nat):Int)] 25 (0,0))) (hR1:w.heap[R1]?=some (.cells #[.bool false,.slice none 0 0,.slice none 0 0,.bool false,.slice none 0 0,.slice none 0 0] 37 (0,0))) (hR2:w.heap[R2]?=some (.cells #[.bool false,.slice none 0 0,.slice none 0 0,.bool false,.slice none 0 0,.slice none 0 0] 45 (0,0))) (l1:wa.heap.size≤R1) (l2:R1<R2) (l3:be<R1) (el:leastOf x [y]=lo) (eh:greatestOf x [y]=hi) (h1 : -2147483648≤M0) (h2:M0≤2147483647) (h3:D0≤255) (h4 : -2147483648≤M1) (h5:M1≤2147483647) (h6:D1≤255) (ex:As M0 D0=x) (ey:As M1 D1=y) (hbl:w.heap[bl]?=some (.cells #[.bool (decide (x.num<0)),.slice A1 (Vx.len x.num.natAbs) c1,.slice B1 (Vx.len (below x.den)) d1] 35 (0,0))) (hL:Ac' w (.agg #[.bool (decide (x.num<0)),.slice A1 (Vx.len x.num.natAbs) c1,.slice B1 (Vx.len (below x.den)) d1]) x) (hbh:w.heap[bh]?=some (.cells #[.bool (decide (y.num<0)),.slice A2 (Vx.len y.num.natAbs) c2,.slice B2 (Vx.len (below y.den)) d2] 35 (0,0))) (hH:Ac' w (.agg #[.bool (decide (y.num<0)),.slice A2 (Vx.len y.num.natAbs) c2,.slice B2 (Vx.len (below y.den)) d2]) y) (lhl:bh≠bl) (lA:R2<bl) (lB:R2<bh) (hxy:y<x) :
   (codeAt 2 Tryz.f33).wp Tryz.prog (bodyPost Tryz.prog Tryz.f33 (Cm wa lo hi)) { tmps:=#[y0,.pointer (some ⟨be,0,none⟩),.pointer (some ⟨R1,0,none⟩),.pointer (some ⟨R2,0,none⟩),.pointer (some ⟨bl,0,none⟩),.pointer (some ⟨bh,0,none⟩),y6,y7,y8,y9,y10,y11,y12,y13,y14,y15,y16,y17,y18,y19,y20,y21,y22,y23,y24,y25,y26,y27,y28,y29,y30,y31,y32,y33,y34],defers:=[] } w:=by
 have l5:wa.heap.size≤bh:=by omega
 have l6:wa.heap.size≤bl:=by omega
 have l7:be≠bh:=by omega
 have l8:be≠bl:=by omega
 have l9:R1≠bh:=by omega
 have l10:R1≠bl:=by omega
 have l11:R2≠bh:=by omega
 have l12:R2≠bl:=by omega
 have kx:Aa' x≤536870912:=by have:=AN' h1 h2 ex;omega
 have ky:Aa' y≤536870912:=by have:=AN' h4 h5 ey;omega
 obtain ⟨cc,hcc⟩:=eY (cmpQ x y:Int)
 have hd:decide (cc>0)=true:=dT_ (by rw [←hcc,Bb];exact hxy)
 have hd2:cc>0:=of_decide_eq_true hd
 obtain rfl:y=lo:=by rw [←el];unfold leastOf;simp only [List.foldl_cons,List.foldl_nil];rw [if_pos hxy]
 obtain rfl:x=hi:=by rw [←eh];unfold greatestOf;simp only [List.foldl_cons,List.foldl_nil];split <;> grind
 obtain ⟨z0,z1,z2⟩:=Ad' hbl
 obtain ⟨x0,x1,x2⟩:=Ad' hbh
 replace HB:=hid HB
 replace hbe:=hid hbe
 replace hR1:=hid hR1
 replace hR2:=hid hR2
 replace hbl:=hid hbl
 replace hbh:=hid hbh
 replace hL:=hid hL
 replace hH:=hid hH
 replace el:=hid el
 replace eh:=hid eh
 replace ex:=hid ex
 replace ey:=hid ey
 replace kx:=hid kx
 replace ky:=hid ky
 replace hcc:=hid hcc
 replace hxy:=hid hxy
 replace h1:=hid h1
 replace h2:=hid h2
 replace h3:=hid h3
 replace h4:=hid h4
 replace h5:=hid h5
 replace h6:=hid h6
 show Code.wp _ (Code.seq _ _) _ _ _
 refine wp_seq_k ?_
 intro G hG
 replace hG:=hid hG
 have HX:=hid (Bf' hcc.out hL.out hH.out kx.out ky.out)
 go_wp2_with fail
 refine (HX.out).mono ?_
 rintro e w1 ⟨rfl,b1⟩
 replace b1:=hid b1
 clear HX
 clear z0 z1 z2 x0 x1 x2
 have D1:=Ab' hbl.out b1.out
 have D2:=Ab' hbh.out b1.out
 obtain ⟨z0,z1,z2⟩:=Ad' D1
 obtain ⟨x0,x1,x2⟩:=Ad' D2
 have F0:=fR w1 bl 0 _ _ D1
 have F1:=fR w1 bl 1 _ _ D1
 have F2:=fR w1 bl 2 _ _ D1
 obtain ⟨u1,hu1⟩:=eX ((((w1.setCell ⟨bl,0,none⟩ (.bool (decide (y.num<0)))).setCell ⟨bl,1,none⟩ (.slice A2 (Vx.len y.num.natAbs) c2)).setCell ⟨bl,2,none⟩ (.slice B2 (Vx.len (below y.den)) d2)))
 obtain ⟨E1,OT1,LV1,BL1⟩:=AE D1 hu1
 have D2':=OT1 _ _ lhl D2
 have F3:=fR u1 bh 0 _ _ D2'
 have F4:=fR u1 bh 1 _ _ D2'
 have F5:=fR u1 bh 2 _ _ D2'
 obtain ⟨u2,hu2⟩:=eX ((((u1.setCell ⟨bh,0,none⟩ (.bool (decide (x.num<0)))).setCell ⟨bh,1,none⟩ (.slice A1 (Vx.len x.num.natAbs) c1)).setCell ⟨bh,2,none⟩ (.slice B1 (Vx.len (below x.den)) d1)))
 obtain ⟨E2,OT2,LV2,BL2⟩:=AE D2' hu2
 obtain ⟨x3,x4,x5⟩:=Ad' D2'
 have P1:=hid (BL2 _ _ l5 (BL1 _ _ l6 (bS HB.out b1.out)))
 have P2:=hid (OT2 _ _ l7 (OT1 _ _ l8 (Ab' hbe.out b1.out)))
 have P3:=hid (OT2 _ _ l9 (OT1 _ _ l10 (Ab' hR1.out b1.out)))
 have P4:=hid (OT2 _ _ l11 (OT1 _ _ l12 (Ab' hR2.out b1.out)))
 have P5:=hid (OT2 _ _ (Ne.symm lhl) E1)
 have P6:=hid (LV2.num (LV1.num (hH.out.keep b1.out)))
 have P7:=hid E2
 have P8:=hid (LV2.num (LV1.num (hL.out.keep b1.out)))
 rw [hu1] at x3 x4 x5 F3 F4 F5
 replace hu1:=hid hu1
 replace hu2:=hid hu2
 clear OT1 OT2 LV1 LV2 BL1 BL2 E1 E2 D1 D2 D2'
 go_wp2_with fail
 rw [←hu1.out,←hu2.out]
 refine hG.out _ _ ?_
 exact Fm P1.out P2.out P3.out P4.out l1 l2 l3 el.out eh.out h1.out h2.out h3.out h4.out h5.out h6.out ex.out ey.out P5.out P6.out P7.out P8.out
end Go.Proofs.YtflopjfnppolgaaGreatDoor.Rf
