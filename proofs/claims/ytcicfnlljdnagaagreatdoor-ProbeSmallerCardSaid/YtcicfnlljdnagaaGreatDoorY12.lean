/-
  Contracts of the functions that the law calls, for every input (NumG NumH NumI).
-/
import Derived.Test.YtcicfnlljdnagaaGreatDoorY00
import Derived.Test.YtcicfnlljdnagaaGreatDoorY11
set_option linter.all false
set_option maxRecDepth 100000
set_option maxHeartbeats 40000000
namespace Go.Proofs.YtcicfnlljdnagaaGreatDoor
open Lib (hid)
open Go.RowKit
open Vx
theorem DK' {w:World} {vx vy:Value} {x y:Rat} (hx:Ad' w vx x) (hy:Ad' w vy y) (hs:Ab' x≤34359738368) (ht:Ab' y≤34359738368) :
   Calls Tryz.prog 10 #[vx,vy] w (Ao' w (x - y)):=by
 obtain ⟨A1,c1,A2,c2,rfl,hx1,hx2⟩:=hx.opened
 obtain ⟨A3,c3,A4,c4,rfl,hy1,hy2⟩:=hy.opened
 obtain ⟨wB,hwB⟩:=eX (((w.alloc (.cells #[.bool (decide (x.num<0)),.slice A1 (len x.num.natAbs) c1,.slice A2 (len (below x.den)) c2] 32)).alloc (.cells #[.bool (!decide (y.num<0)),.slice A3 (len y.num.natAbs) c3,.slice A4 (len (below y.den)) c4] 32)).alloc (.cells #[.bool false,.slice none 0 0,.slice none 0 0] 32))
 obtain ⟨b0,gA,gA2,gB⟩:=AD hwB
 obtain ⟨k0,k1,k2⟩:=Ae gA
 obtain ⟨k3,k4,k5⟩:=Ae gA2
 have HK0:=hid (Ak'.start (T:=32) rfl (AK' _ _ _ _ _ _ _) gB)
 have HB0:=hid b0
 have hlt1:w.heap.size<w.heap.size+2:=by omega
 have hlt2:w.heap.size+1<w.heap.size+2:=by omega
 clear gA gA2 gB b0
 have hy':Bd' wB (.agg #[.bool (!decide (y.num<0)),.slice A3 (len y.num.natAbs) c3,.slice A4 (len (below y.den)) c4]) (!decide (y.num<0)) (-y) :=
   ⟨_,_,rfl,by rw [Rat.neg_num,Int.natAbs_neg,Hu',Bm'],by rw [Rat.neg_num,Int.natAbs_neg];exact hy1.keep HB0.out,by rw [Rat.neg_den];exact hy2.keep HB0.out⟩
 have HX:=hid (Dr (hx.keep HB0.out) hy' hs (by rw [Dl];exact ht))
 have hsub:x + -y=x - y:=(Rat.sub_eq_add_neg x y).symm
 rw [hsub] at HX
 clear hsub hx hy
 go_enter Tryz.func10,Tryz.ntmps10
 go_upto_region 2 with fail
 rw [←hwB]
 clear hwB
 go_wp2_with fail
 refine (HX.out).mono ?_
 rintro e w2 ⟨v2,rfl,hv2,b2⟩
 obtain ⟨B1,e1,B2,e2,rfl,-,-⟩:=hv2.opened
 have hk:=(HK0.out.call b2).held (Aj'.refl _)
 obtain ⟨-,c0,c1',c2',f0,f1,f2,-⟩:=id hk
 have HD:=hk.done (q:=x - y) (b:=decide ((x - y).num<0)) (A1:=B1) (n1:=len (x - y).num.natAbs) (c1:=e1) (A2:=B2) (n2:=len (below (x - y).den)) (c2:=e2) (hv2)
 obtain ⟨d1,d2,d3⟩:=HD
 obtain ⟨r0,r1,r2⟩:=Ae d3
 have HD:=hid (And.intro d1 d2)
 clear d1 d2 d3
 go_wp2_with fail
 refine bP (v:=.agg #[.bool (decide ((x - y).num<0)),.slice (B1) (len (x - y).num.natAbs) (e1),.slice (B2) (len (below (x - y).den)) (e2)]) ?_ rfl ⟨_,rfl,HD.out.1,Ai HB0.out (by omega) HD.out.2⟩
 simp [results,Tryz.results10,go_sem,r0,r1,r2]
def Bl (w:World) (q:Rat) (c:Int) (e:Ending) (w':World):Prop:=∃ v,e=.returned (.tuple #[v,.int .i64 c])∧Ad' w' v q∧Below w.heap.size w w'
theorem E5' {w:World} {vx vy:Value} {x y:Rat} (hx:Ad' w vx x) (hy:Ad' w vy y) (h:y=0) :
   Calls Tryz.prog 11 #[vx,vy] w (Bl w 0 10):=by
 obtain ⟨A1,c1,A2,c2,rfl,hx1,hx2⟩:=hx.opened
 obtain ⟨A3,c3,A4,c4,rfl,hy1,hy2⟩:=hy.opened
 obtain ⟨wB,hwB⟩:=eX (((w.alloc (.cells #[.bool (decide (x.num<0)),.slice A1 (len x.num.natAbs) c1,.slice A2 (len (below x.den)) c2] 32)).alloc (.cells #[.bool (decide (y.num<0)),.slice A3 (len y.num.natAbs) c3,.slice A4 (len (below y.den)) c4] 32)).alloc (.cells #[.bool false,.slice none 0 0,.slice none 0 0] 32))
 obtain ⟨b0,gA,gA2,gB⟩:=AD hwB
 obtain ⟨k0,k1,k2⟩:=Ae gA
 obtain ⟨k3,k4,k5⟩:=Ae gA2
 have HK0:=hid (Ak'.start (T:=32) rfl (AK' _ _ _ _ _ _ _) gB)
 have HB0:=hid b0
 have hlt1:w.heap.size<w.heap.size+2:=by omega
 have hlt2:w.heap.size+1<w.heap.size+2:=by omega
 clear gA gA2 gB b0
 have HX:=fun (w':World) (hk:Below w.heap.size w w')=>hid (AM' (hy.keep hk))
 have HE:Hid (y.num.sign=0):=by show _=_;rw [h];rfl
 clear h
 go_enter Tryz.func11,Tryz.ntmps11
 go_wp2_with fail
 rw [←hwB]
 clear hwB
 refine ((HX _ HB0.out).out).mono ?_
 rintro e w1 ⟨rfl,b1⟩
 rw [HE.out]
 have hk:=(HK0.out.call b1).held (Aj'.refl _)
 obtain ⟨-,c0,c1',c2',f0,f1,f2,-⟩:=id hk
 have HD:=hk.done (q:=0) (b:=false) (A1:=none) (n1:=0) (c1:=0) (A2:=none) (n2:=0) (c2:=0) (Bg _)
 obtain ⟨d1,d2,d3⟩:=HD
 obtain ⟨r0,r1,r2⟩:=Ae d3
 have HD:=hid (And.intro d1 d2)
 clear d1 d2 d3
 go_wp2_with fail
 refine bP (v:=.tuple #[.agg #[.bool (false),.slice (none) (0) (0),.slice (none) (0) (0)],.int .i64 10]) ?_ rfl ⟨_,rfl,HD.out.1,Ai HB0.out (by omega) HD.out.2⟩
 simp [results,Tryz.results11,go_sem,r0,r1,r2]
theorem FF {w:World} {vx vy:Value} {x y:Rat} (hx:Ad' w vx x) (hy:Ad' w vy y) (hs:Ab' x≤34359738368) (ht:Ab' y≤34359738368) (h:y≠0) :
   Calls Tryz.prog 11 #[vx,vy] w (Bl w (x / y) 0):=by
 obtain ⟨A1,c1,A2,c2,rfl,hx1,hx2⟩:=hx.opened
 obtain ⟨A3,c3,A4,c4,rfl,hy1,hy2⟩:=hy.opened
 obtain ⟨wB,hwB⟩:=eX (((w.alloc (.cells #[.bool (decide (x.num<0)),.slice A1 (len x.num.natAbs) c1,.slice A2 (len (below x.den)) c2] 32)).alloc (.cells #[.bool (decide (y.num<0)),.slice A3 (len y.num.natAbs) c3,.slice A4 (len (below y.den)) c4] 32)).alloc (.cells #[.bool false,.slice none 0 0,.slice none 0 0] 32))
 obtain ⟨b0,gA,gA2,gB⟩:=AD hwB
 obtain ⟨k0,k1,k2⟩:=Ae gA
 obtain ⟨k3,k4,k5⟩:=Ae gA2
 have HK0:=hid (Ak'.start (T:=32) rfl (AK' _ _ _ _ _ _ _) gB)
 have HB0:=hid b0
 have hlt1:w.heap.size<w.heap.size+2:=by omega
 have hlt2:w.heap.size+1<w.heap.size+2:=by omega
 clear gA gA2 gB b0
 have HX:=fun (w':World) (hk:Below w.heap.size w w')=>hid (AM' (hy.keep hk))
 have hn:y.num≠0:=fun e=>h (Rat.num_eq_zero.1 e)
 have HE:Hid ((y.num.sign==0)=false):=by
   show _=_
   rw [beq_eq_false_iff_ne]
   intro e
   exact hn (Int.sign_eq_zero_iff_zero.1 e)
 have HP:=hid (Gh y h)
 have HS:Hid (Ab' y⁻¹≤34359738368):=nT (Fl' y) ht
 have HH:=hid hs
 have hpos:0<y.num.natAbs:=by omega
 clear h hn hs ht
 go_enter Tryz.func11,Tryz.ntmps11
 go_wp2_with fail
 rw [←hwB]
 clear hwB
 refine ((HX _ HB0.out).out).mono ?_
 rintro e w1 ⟨rfl,b1⟩
 have HK1:=hid (HK0.out.call b1)
 have H1:=HK1.out.begin
 have hb1:=Ai HB0.out (by omega) HK1.out.1
 have hx1':=hx.keep hb1
 have hy1':=hy.keep hb1
 have hyt:=hy1.keep hb1
 have hE:=HE.out
 clear HX b1 hb1
 have HX:=fun (w':World) (hk:Ak wB (w.heap.size+2) w1 w')=>hid (Az (hk.stay.num hy1'))
 go_wp2_with fail
 go_region_held3 (fun w'=>(∀ b o,b<w.heap.size+2→w'.cell? ⟨b,o,none⟩=wB.cell? ⟨b,o,none⟩)∧w'.cell? ⟨w.heap.size+2,0,none⟩=some (cur w' ⟨w.heap.size+2,0,none⟩)∧w'.cell? ⟨w.heap.size+2,1,none⟩=some (cur w' ⟨w.heap.size+2,1,none⟩)∧w'.cell? ⟨w.heap.size+2,2,none⟩=some (cur w' ⟨w.heap.size+2,2,none⟩)∧w'.frozen? ⟨w.heap.size+2,0,none⟩=false∧w'.frozen? ⟨w.heap.size+2,1,none⟩=false∧w'.frozen? ⟨w.heap.size+2,2,none⟩=false∧Ak' 3 32 wB (w.heap.size+2) w'∧Aj' w1 w')
   (first | exact H1 | exact hk4.store | exact hk4 | exact hk3 | exact hk2)
   (first | (go_at_call 43;refine ((HX _ ?_).out).mono ?_;assumption;rintro e w2 ⟨v2,rfl,hv2,hbl2⟩;have hk2:=Ak.call (by assumption) hbl2) | (go_at_call 42;refine (BK' hv2 (hk2.stay _ _ hyt) hpos HP.out.1 HP.out.2).mono ?_;rintro e w3 ⟨v3,rfl,hv3,hbl3⟩;have hk3:=Ak.call (by assumption) hbl3) | (go_at_call 13;refine (BE (hk3.stay.num hx1') hv3 HH.out HS.out).mono ?_;rintro e w4 ⟨v4,rfl,hv4,hbl4⟩;obtain ⟨C1,j1,C2,j2,rfl,-,-⟩:=hv4.opened;have hk4:=Ak.call (by assumption) hbl4))
 rename_i hHl
 clear hHl
 have HD:=hk4.done (q:=x / y) (b:=decide ((x*y⁻¹).num<0)) (A1:=C1) (n1:=len (x*y⁻¹).num.natAbs) (c1:=j1) (A2:=C2) (n2:=len (below (x*y⁻¹).den)) (c2:=j2) (hv4)
 obtain ⟨d1,d2,d3⟩:=HD
 obtain ⟨r0,r1,r2⟩:=Ae d3
 have HD:=hid (And.intro d1 d2)
 clear d1 d2 d3
 go_wp2_with fail
 refine bP (v:=.tuple #[.agg #[.bool (decide ((x*y⁻¹).num<0)),.slice (C1) (len (x*y⁻¹).num.natAbs) (j1),.slice (C2) (len (below (x*y⁻¹).den)) (j2)],.int .i64 0]) ?_ rfl ⟨_,rfl,HD.out.1,Ai HB0.out (by omega) HD.out.2⟩
 simp [results,Tryz.results11,go_sem,r0,r1,r2]
theorem CP' {w:World} {vx vy:Value} {x y:Rat} (hx:Ad' w vx x) (hy:Ad' w vy y) (hs:Ab' x≤34359738368) (ht:Ab' y≤34359738368) :
   Calls Tryz.prog 11 #[vx,vy] w (Bl w (x / y) (if y=0 then 10 else 0)):=by
 by_cases h:y=0
 · rw [if_pos h]
   have e:x / y=0:=by rw [h,Rat.div_def,Rat.inv_zero,Rat.mul_zero]
   rw [e]
   exact E5' hx hy h
 · rw [if_neg h]
   exact FF hx hy hs ht h
theorem Ca' {w:World} {vx vy:Value} {x y:Rat} (hx:Ad' w vx x) (hy:Ad' w vy y) (hs:Ab' x≤34359738368) (ht:Ab' y≤34359738368) :
   Calls Tryz.prog 111 #[vx,vy] w (Ao' w (x / y)):=by
 obtain ⟨A1,c1,A2,c2,rfl,hx1,hx2⟩:=hx.opened
 obtain ⟨A3,c3,A4,c4,rfl,hy1,hy2⟩:=hy.opened
 obtain ⟨wB,hwB⟩:=eX (((w.alloc (.cells #[.bool (decide (x.num<0)),.slice A1 (len x.num.natAbs) c1,.slice A2 (len (below x.den)) c2] 32)).alloc (.cells #[.bool (decide (y.num<0)),.slice A3 (len y.num.natAbs) c3,.slice A4 (len (below y.den)) c4] 32)).alloc (.cells #[.bool false,.slice none 0 0,.slice none 0 0] 32))
 obtain ⟨b0,gA,gA2,gB⟩:=AD hwB
 obtain ⟨k0,k1,k2⟩:=Ae gA
 obtain ⟨k3,k4,k5⟩:=Ae gA2
 have HK0:=hid (Ak'.start (T:=32) rfl (AK' _ _ _ _ _ _ _) gB)
 have HB0:=hid b0
 have hlt1:w.heap.size<w.heap.size+2:=by omega
 have hlt2:w.heap.size+1<w.heap.size+2:=by omega
 clear gA gA2 gB b0
 have HX:=hid (CP' (hx.keep HB0.out) (hy.keep HB0.out) hs ht)
 obtain ⟨cc,hcc⟩:∃ cc:Int,cc=if y=0 then 10 else 0:=⟨_,rfl⟩
 rw [←hcc] at HX
 clear hcc hx hy
 go_enter Tryz.func111,Tryz.ntmps111
 go_wp2_with fail
 rw [←hwB]
 clear hwB
 refine (HX.out).mono ?_
 rintro e w2 ⟨v2,rfl,hv2,b2⟩
 obtain ⟨B1,e1,B2,e2,rfl,-,-⟩:=hv2.opened
 have HK2:=hid (HK0.out.call b2)
 go_upto_region 2 with fail
 obtain ⟨w3,hw3⟩:=eX (w2.alloc (.cells #[.bool (decide ((x / y).num<0)),.slice B1 (len (x / y).num.natAbs) e1,.slice B2 (len (below (x / y).den)) e2] 32))
 have b3:Below w2.heap.size w2 w3:=by rw [hw3];exact (Below.refl _ _).alloc (nL _) _
 have g3:w3.heap[w2.heap.size]?=some (.cells #[.bool (decide ((x / y).num<0)),.slice B1 (len (x / y).num.natAbs) e1,.slice B2 (len (below (x / y).den)) e2] 32 (0,0)):=by rw [hw3];exact hA_ w2 _
 obtain ⟨p0,p1,p2⟩:=Ae g3
 have hk:=(HK2.out.call b3).held (Aj'.refl _)
 have hv3:=hv2.keep b3
 rw [←hw3]
 clear hw3 g3 b3 b2 HX k0 k1 k2 k3 k4 k5
 obtain ⟨-,c0,c1',c2',f0,f1,f2,-⟩:=id hk
 have HD:=hk.done (q:=x / y) (b:=decide ((x / y).num<0)) (A1:=B1) (n1:=len (x / y).num.natAbs) (c1:=e1) (A2:=B2) (n2:=len (below (x / y).den)) (c2:=e2) (hv3)
 obtain ⟨d1,d2,d3⟩:=HD
 obtain ⟨r0,r1,r2⟩:=Ae d3
 have HD:=hid (And.intro d1 d2)
 clear d1 d2 d3
 go_wp2_with fail
 refine bP (v:=.agg #[.bool (decide ((x / y).num<0)),.slice (B1) (len (x / y).num.natAbs) (e1),.slice (B2) (len (below (x / y).den)) (e2)]) ?_ rfl ⟨_,rfl,HD.out.1,Ai HB0.out (by omega) HD.out.2⟩
 simp [results,Tryz.results111,go_sem,r0,r1,r2]
def Ag' (wB:World) (G:Nat) (wS w:World):Prop:=(∀ b o,b<G→w.cell? ⟨b,o,none⟩=wB.cell? ⟨b,o,none⟩)∧Below G wB w∧Aj' wS w
theorem Ag'.call {wB wS w w':World} {G:Nat} (h:Ag' wB G wS w) (hG:G≤wB.heap.size) (hb:Below w.heap.size w w'):Ag' wB G wS w':=by
 have h1:=h.2.1.trans (hb.mono (nT hG h.2.1.size))
 exact ⟨Aq h1,h1,h.2.2.call hb⟩
theorem Ag'.start (w:World) (G:Nat):Ag' w G w w.drew:=by
 have hb:∀ B,Below B w w.drew:=fun B=>⟨rfl,rfl,rfl,nL _,fun _ _=>rfl⟩
 exact ⟨Aq (hb G),hb G,(Aj'.refl w).call (hb _)⟩
theorem Ag'.begin {wB wS w:World} {G:Nat} (h:Below G wB w) (hS:w=wS):Ag' wB G wS w.drew:=by
 subst hS
 have hb:∀ B,Below B w w.drew:=fun B=>⟨rfl,rfl,rfl,nL _,fun _ _=>rfl⟩
 have h1:=h.trans (hb G)
 exact ⟨Aq h1,h1,(Aj'.refl w).call (hb _)⟩
theorem GQ {a b d:Nat} (hd:0<d):Ao (a*d) (b*d)=Ao a b:=by
 unfold Ao
 simp only [Nat.mul_lt_mul_right hd,Nat.mul_right_cancel_iff hd]
theorem Ct' {a b:Nat}:(Ao a b==0)=decide (a=b):=by
 unfold Ao
 split
 · rename_i h;rw [dF_ (by omega)];rfl
 · split
   · rename_i h;rw [dT_ h];rfl
   · rename_i h;rw [dF_ h];rfl
theorem Ej' {n:Nat} (h:0<n):2^(bitlen n - 1)≤n∧0<bitlen n:=by
 have e:bitlen n=n.log2+1:=by unfold bitlen;rw [if_neg (by omega)]
 rw [e]
 exact ⟨Nat.log2_self_le (by omega),by omega⟩
theorem Ek {a d b e:Nat} (hb:0<b) (he:0<e) (h:bitlen a+bitlen d+1<bitlen b+bitlen e):a*d<b*e:=by
 have h1:=C9' a;have h2:=C9' d
 obtain ⟨h3,h5⟩:=Ej' hb;obtain ⟨h4,h6⟩:=Ej' he
 have h7:a*d≤2^bitlen a*2^bitlen d:=Nat.mul_le_mul (Nat.le_of_lt h1) (Nat.le_of_lt h2)
 have h8:2^(bitlen b - 1)*2^(bitlen e - 1)≤b*e:=Nat.mul_le_mul h3 h4
 rw [←Nat.pow_add] at h7 h8
 have h9:(2:Nat)^(bitlen a+bitlen d)<2^(bitlen b - 1+(bitlen e - 1))∨bitlen a+bitlen d=bitlen b - 1+(bitlen e - 1):=by
   rcases Nat.lt_or_ge (bitlen a+bitlen d) (bitlen b - 1+(bitlen e - 1)) with h | h
   · exact .inl (Nat.pow_lt_pow_right (by omega) h)
   · exact .inr (by omega)
 rcases h9 with h9 | h9
 · omega
 · rw [h9] at h7
   have:a*d<2^bitlen a*2^bitlen d:=by
     rcases Nat.eq_zero_or_pos d with h | h
     · subst h;rw [Nat.mul_zero];exact Nat.mul_pos (Nat.two_pow_pos _) (Nat.two_pow_pos _)
     · exact Nat.mul_lt_mul_of_lt_of_le h1 (Nat.le_of_lt h2) (Nat.two_pow_pos _)
   rw [←Nat.pow_add,h9] at this
   omega
theorem AH {n:Nat} (h:len n≤34359738368):bitlen n≤2199023255552:=by
 have h1:=Am n
 rw [AN',←Nat.pow_mul] at h1
 unfold bitlen
 split
 · omega
 · rename_i h0
   have:=(Nat.log2_lt h0).2 h1
   omega
theorem E6 {w:World} {vx vy:Value} {x y:Rat} (hx:Ad' w vx x) (hy:Ad' w vy y) (hs:Ab' x≤34359738368) (ht:Ab' y≤34359738368) (hx0:x≠0) (hy0:y≠0) (h:x.den=y.den) :
   Calls Tryz.prog 52 #[vx,vy] w (AP' w (Ao (x.num.natAbs*y.den) (y.num.natAbs*x.den))):=by
 obtain ⟨A1,c1,A2,c2,rfl,hx1,hx2⟩:=hx.opened
 obtain ⟨A3,c3,A4,c4,rfl,hy1,hy2⟩:=hy.opened
 obtain ⟨wB,hwB⟩:=eX ((w.alloc (.cells #[.bool (decide (x.num<0)),.slice A1 (len x.num.natAbs) c1,.slice A2 (len (below x.den)) c2] 32)).alloc (.cells #[.bool (decide (y.num<0)),.slice A3 (len y.num.natAbs) c3,.slice A4 (len (below y.den)) c4] 32))
 obtain ⟨b0,gA,gA2⟩:=AA' hwB
 obtain ⟨k0,k1,k2⟩:=Ae gA
 obtain ⟨k3,k4,k5⟩:=Ae gA2
 have hsz:wB.heap.size=w.heap.size+2:=by rw [hwB];simp
 have HSZ:=hid hsz
 have HB0:=hid b0
 have hlt1:w.heap.size<w.heap.size+2:=by omega
 have hlt2:w.heap.size+1<w.heap.size+2:=by omega
 clear gA gA2 b0 hsz
 have HX:=fun (w':World) (hk:Ag' wB (w.heap.size+2) wB w')=>hid (Az (hx.keep (HB0.out.trans (hk.2.1.mono (by omega)))))
 have HY:=fun (w':World) (hk:Ag' wB (w.heap.size+2) wB w')=>hid (Az (hy.keep (HB0.out.trans (hk.2.1.mono (by omega)))))
 have H0:=Ag'.start wB (w.heap.size+2)
 have l1:=Ah x;have l2:=Ah' x;have l3:=Ah y;have l4:=Ah' y
 have HL:=hid (show len x.num.natAbs≤34359738368∧len x.den≤34359738368∧len y.num.natAbs≤34359738368∧len y.den≤34359738368 by omega)
 have n1:0<x.num.natAbs:=by have:x.num≠0:=fun e=>hx0 (Rat.num_eq_zero.1 e);omega
 have n2:0<y.num.natAbs:=by have:y.num≠0:=fun e=>hy0 (Rat.num_eq_zero.1 e);omega
 have n3:0<x.den:=x.den_pos
 have n4:0<y.den:=y.den_pos
 have HH:=hid h
 have htest:Ao x.den y.den=0:=by rw [h];unfold Ao;simp
 clear h
 clear hs ht l1 l2 l3 l4 hx0 hy0
 go_enter Tryz.func52,Tryz.ntmps52
 go_wp2_with fail
 rw [←hwB]
 clear hwB
 go_region_held3 (fun w'=>(∀ b o,b<w.heap.size+2→w'.cell? ⟨b,o,none⟩=wB.cell? ⟨b,o,none⟩)∧Below (w.heap.size+2) wB w'∧Aj' wB w')
   (first | exact H0 | exact hk2 | exact hk1)
   (first | (go_at_call_of 43 (Value.agg #[.bool (decide (x.num<0)),.slice A1 (len x.num.natAbs) c1,.slice A2 (len (below x.den)) c2]);refine ((HX _ ?_).out).mono ?_;assumption;rintro e w1 ⟨vb,rfl,hvb,hbl1⟩;have hk1:=Ag'.call (by assumption) (Nat.le_of_eq HSZ.out.symm) hbl1) | (go_at_call_of 43 (Value.agg #[.bool (decide (y.num<0)),.slice A3 (len y.num.natAbs) c3,.slice A4 (len (below y.den)) c4]);refine ((HY _ ?_).out).mono ?_;assumption;rintro e w2 ⟨vd,rfl,hvd,hbl2⟩;have hk2:=Ag'.call (by assumption) (Nat.le_of_eq HSZ.out.symm) hbl2))
 rename_i hHl
 clear hHl
 have hb2:=hvb.keep hbl2
 have HB2:=hid (HB0.out.trans (hk2.2.1.mono (by omega)))
 have HBB:=hid hk2.2.1
 have hc2:=hk2.1
 have hx2':=hx1.keep HB2.out
 have hy2':=hy1.keep HB2.out
 have HC1:=hid (Bi' hb2 hvd)
 try rw [htest] at HC1
 clear HX HY hbl1 hbl2 hvb hk1 hk2 H0
 have HC2:=fun k=>hid (Bi' (hx2'.drewN k) (hy2'.drewN k))
 have HM:Hid (Ao (x.num.natAbs*y.den) (y.num.natAbs*x.den)=Ao x.num.natAbs y.num.natAbs):=by show _=_;rw [HH.out,GQ n4]
 go_wp2_with fail
 refine (HC1.out).mono ?_
 rintro e w3 ⟨rfl,k,rfl⟩
 go_wp2_with fail
 refine ((HC2 _).out).mono ?_
 rintro e w4 ⟨rfl,k',rfl⟩
 go_wp2_with fail
 go_ret
 exact Bj HM.out.symm (Ae' HB2.out (As _ _))
theorem E6' {w:World} {vx vy:Value} {x y:Rat} (hx:Ad' w vx x) (hy:Ad' w vy y) (hs:Ab' x≤34359738368) (ht:Ab' y≤34359738368) (hx0:x≠0) (hy0:y≠0) (h:x.den≠y.den) (h2:((bitlen x.num.natAbs:Nat):Int)+(bitlen y.den:Nat) - (bitlen y.num.natAbs:Nat) - (bitlen x.den:Nat) < -1) :
   Calls Tryz.prog 52 #[vx,vy] w (AP' w (Ao (x.num.natAbs*y.den) (y.num.natAbs*x.den))):=by
 obtain ⟨A1,c1,A2,c2,rfl,hx1,hx2⟩:=hx.opened
 obtain ⟨A3,c3,A4,c4,rfl,hy1,hy2⟩:=hy.opened
 obtain ⟨wB,hwB⟩:=eX ((w.alloc (.cells #[.bool (decide (x.num<0)),.slice A1 (len x.num.natAbs) c1,.slice A2 (len (below x.den)) c2] 32)).alloc (.cells #[.bool (decide (y.num<0)),.slice A3 (len y.num.natAbs) c3,.slice A4 (len (below y.den)) c4] 32))
 obtain ⟨b0,gA,gA2⟩:=AA' hwB
 obtain ⟨k0,k1,k2⟩:=Ae gA
 obtain ⟨k3,k4,k5⟩:=Ae gA2
 have hsz:wB.heap.size=w.heap.size+2:=by rw [hwB];simp
 have HSZ:=hid hsz
 have HB0:=hid b0
 have hlt1:w.heap.size<w.heap.size+2:=by omega
 have hlt2:w.heap.size+1<w.heap.size+2:=by omega
 clear gA gA2 b0 hsz
 have HX:=fun (w':World) (hk:Ag' wB (w.heap.size+2) wB w')=>hid (Az (hx.keep (HB0.out.trans (hk.2.1.mono (by omega)))))
 have HY:=fun (w':World) (hk:Ag' wB (w.heap.size+2) wB w')=>hid (Az (hy.keep (HB0.out.trans (hk.2.1.mono (by omega)))))
 have H0:=Ag'.start wB (w.heap.size+2)
 have l1:=Ah x;have l2:=Ah' x;have l3:=Ah y;have l4:=Ah' y
 have HL:=hid (show len x.num.natAbs≤34359738368∧len x.den≤34359738368∧len y.num.natAbs≤34359738368∧len y.den≤34359738368 by omega)
 have n1:0<x.num.natAbs:=by have:x.num≠0:=fun e=>hx0 (Rat.num_eq_zero.1 e);omega
 have n2:0<y.num.natAbs:=by have:y.num≠0:=fun e=>hy0 (Rat.num_eq_zero.1 e);omega
 have n3:0<x.den:=x.den_pos
 have n4:0<y.den:=y.den_pos
 have htest:(Ao x.den y.den==0)=false:=by rw [Ct'];exact dF_ h
 clear h
 obtain ⟨p,hp⟩:=eX (bitlen x.num.natAbs)
 obtain ⟨q,hq⟩:=eX (bitlen y.den)
 obtain ⟨r,hr⟩:=eX (bitlen y.num.natAbs)
 obtain ⟨t,ht'⟩:=eX (bitlen x.den)
 have bp:p≤2199023255552:=by rw [hp];exact AH (by omega)
 have bq:q≤2199023255552:=by rw [hq];exact AH (by omega)
 have br:r≤2199023255552:=by rw [hr];exact AH (by omega)
 have bt:t≤2199023255552:=by rw [ht'];exact AH (by omega)
 have HP0:=hid hp;have HQ0:=hid hq;have HR0:=hid hr;have HT0:=hid ht'
 have hM:Ao (x.num.natAbs*y.den) (y.num.natAbs*x.den) = -1:=by
   have:x.num.natAbs*y.den<y.num.natAbs*x.den:=Ek n2 n3 (by rw [←hp,←hq,←hr,←ht'] at h2 ⊢;omega)
   exact Br' this
 rw [←hp,←hq,←hr,←ht'] at h2
 have HM:=hid hM
 clear hp hq hr ht' hM
 clear hs ht l1 l2 l3 l4 hx0 hy0
 go_enter Tryz.func52,Tryz.ntmps52
 go_wp2_with fail
 rw [←hwB]
 clear hwB
 go_region_held3 (fun w'=>(∀ b o,b<w.heap.size+2→w'.cell? ⟨b,o,none⟩=wB.cell? ⟨b,o,none⟩)∧Below (w.heap.size+2) wB w'∧Aj' wB w')
   (first | exact H0 | exact hk2 | exact hk1)
   (first | (go_at_call_of 43 (Value.agg #[.bool (decide (x.num<0)),.slice A1 (len x.num.natAbs) c1,.slice A2 (len (below x.den)) c2]);refine ((HX _ ?_).out).mono ?_;assumption;rintro e w1 ⟨vb,rfl,hvb,hbl1⟩;have hk1:=Ag'.call (by assumption) (Nat.le_of_eq HSZ.out.symm) hbl1) | (go_at_call_of 43 (Value.agg #[.bool (decide (y.num<0)),.slice A3 (len y.num.natAbs) c3,.slice A4 (len (below y.den)) c4]);refine ((HY _ ?_).out).mono ?_;assumption;rintro e w2 ⟨vd,rfl,hvd,hbl2⟩;have hk2:=Ag'.call (by assumption) (Nat.le_of_eq HSZ.out.symm) hbl2))
 rename_i hHl
 clear hHl
 have hb2:=hvb.keep hbl2
 have HB2:=hid (HB0.out.trans (hk2.2.1.mono (by omega)))
 have HBB:=hid hk2.2.1
 have hc2:=hk2.1
 have hx2':=hx1.keep HB2.out
 have hy2':=hy1.keep HB2.out
 have HC1:=hid (Bi' hb2 hvd)
 try rw [htest] at HC1
 clear HX HY hbl1 hbl2 hvb hk1 hk2 H0
 go_wp2_with fail
 refine (HC1.out).mono ?_
 rintro e w3' ⟨rfl,k,rfl⟩
 have hb3:=hb2.drewN k
 have hd3:=hvd.drewN k
 have hx3:=hx2'.drewN k
 have hy3:=hy2'.drewN k
 have HB3:=hid (Ae' HB2.out (As w2 k))
 have HBB3:=hid (HBB.out.trans (show Below (w.heap.size+2) w2 (w2.drewN k) from ⟨rfl,rfl,rfl,nL _,fun _ _=>rfl⟩))
 clear hb2 hvd hx2' hy2' HB2 HBB hc2 HC1
 generalize w2.drewN k=w3 at hb3 hd3 hx3 hy3 HB3 HBB3 ⊢
 have hc3:=Aq HBB3.out
 have H3:=Ag'.begin (wS:=w3) HBB3.out rfl
 have HP:=fun (w':World) (hk:Ag' wB (w.heap.size+2) w3 w')=>hid (AC (hk.2.2 _ _ hx3) (nT HL.out.1 (by decide)))
 have HQ:=fun (w':World) (hk:Ag' wB (w.heap.size+2) w3 w')=>hid (AC (hk.2.2 _ _ hd3) (nT HL.out.2.2.2 (by decide)))
 have HR:=fun (w':World) (hk:Ag' wB (w.heap.size+2) w3 w')=>hid (AC (hk.2.2 _ _ hy3) (nT HL.out.2.2.1 (by decide)))
 have HT:=fun (w':World) (hk:Ag' wB (w.heap.size+2) w3 w')=>hid (AC (hk.2.2 _ _ hb3) (nT HL.out.2.1 (by decide)))
 rw [←HP0.out] at HP
 rw [←HQ0.out] at HQ
 rw [←HR0.out] at HR
 rw [←HT0.out] at HT
 have e1:IntKind.i64.wrap (((p:Nat):Int)+((q:Nat):Int))=((p:Nat):Int)+((q:Nat):Int):=by rw [IntKind.wrap_i64];omega
 have e2:IntKind.i64.wrap (((p:Nat):Int)+((q:Nat):Int) - ((r:Nat):Int))=((p:Nat):Int)+((q:Nat):Int) - ((r:Nat):Int):=by rw [IntKind.wrap_i64];omega
 have e3:IntKind.i64.wrap (((p:Nat):Int)+((q:Nat):Int) - ((r:Nat):Int) - ((t:Nat):Int))=((p:Nat):Int)+((q:Nat):Int) - ((r:Nat):Int) - ((t:Nat):Int):=by rw [IntKind.wrap_i64];omega
 go_wp2_with fail
 go_region_held3 (fun w'=>(∀ b o,b<w.heap.size+2→w'.cell? ⟨b,o,none⟩=wB.cell? ⟨b,o,none⟩)∧Below (w.heap.size+2) wB w'∧Aj' w3 w')
   (first | exact H3 | assumption)
   (first | (go_at_call_of 93 (Value.slice A1 (len x.num.natAbs) c1);refine ((HP _ ?_).out).mono ?_;assumption;rintro e w4 ⟨rfl,rfl⟩) | (go_at_call_of 93 vd;refine ((HQ _ ?_).out).mono ?_;assumption;rintro e w4 ⟨rfl,rfl⟩) | (go_at_call_of 93 (Value.slice A3 (len y.num.natAbs) c3);refine ((HR _ ?_).out).mono ?_;assumption;rintro e w4 ⟨rfl,rfl⟩) | (go_at_call_of 93 vb;refine ((HT _ ?_).out).mono ?_;assumption;rintro e w4 ⟨rfl,rfl⟩))
 rename_i hHl
 generalize w3.drew=w4 at hHl ⊢
 obtain ⟨hc4,hb4,hs4⟩:=hHl
 have hx4:=hs4 _ _ hx3
 have hy4:=hs4 _ _ hy3
 have hvb4:=hs4 _ _ hb3
 have hvd4:=hs4 _ _ hd3
 have HB4:=hid (HB0.out.trans (hb4.mono (by omega)))
 have HBB4:=hid hb4
 clear hc3 hs4 hb4 HP HQ HR HT H3 hx3 hy3 hb3 hd3 HB3 HBB3
 obtain ⟨D,hD⟩:=eX (((p:Nat):Int)+((q:Nat):Int) - ((r:Nat):Int) - ((t:Nat):Int):Int)
 rw [←hD]
 have hD1:D < -1:=by omega
 have HC9:=hid (BJ' (w:=w4) D 0)
 have hci:AS D 0 = -1:=by unfold AS;first | rw [if_pos (by omega)] | rw [if_neg (by omega),if_neg (by omega)]
 rw [hci] at HC9
 clear hci hD e1 e2 e3 h2
 go_wp2_with fail
 refine (HC9.out).mono ?_
 rintro e w5 ⟨rfl,rfl⟩
 go_wp2_with fail
 go_ret
 exact Bj HM.out.symm HB4.out
theorem E7 {w:World} {vx vy:Value} {x y:Rat} (hx:Ad' w vx x) (hy:Ad' w vy y) (hs:Ab' x≤34359738368) (ht:Ab' y≤34359738368) (hx0:x≠0) (hy0:y≠0) (h:x.den≠y.den) (h2:1<((bitlen x.num.natAbs:Nat):Int)+(bitlen y.den:Nat) - (bitlen y.num.natAbs:Nat) - (bitlen x.den:Nat)) :
   Calls Tryz.prog 52 #[vx,vy] w (AP' w (Ao (x.num.natAbs*y.den) (y.num.natAbs*x.den))):=by
 obtain ⟨A1,c1,A2,c2,rfl,hx1,hx2⟩:=hx.opened
 obtain ⟨A3,c3,A4,c4,rfl,hy1,hy2⟩:=hy.opened
 obtain ⟨wB,hwB⟩:=eX ((w.alloc (.cells #[.bool (decide (x.num<0)),.slice A1 (len x.num.natAbs) c1,.slice A2 (len (below x.den)) c2] 32)).alloc (.cells #[.bool (decide (y.num<0)),.slice A3 (len y.num.natAbs) c3,.slice A4 (len (below y.den)) c4] 32))
 obtain ⟨b0,gA,gA2⟩:=AA' hwB
 obtain ⟨k0,k1,k2⟩:=Ae gA
 obtain ⟨k3,k4,k5⟩:=Ae gA2
 have hsz:wB.heap.size=w.heap.size+2:=by rw [hwB];simp
 have HSZ:=hid hsz
 have HB0:=hid b0
 have hlt1:w.heap.size<w.heap.size+2:=by omega
 have hlt2:w.heap.size+1<w.heap.size+2:=by omega
 clear gA gA2 b0 hsz
 have HX:=fun (w':World) (hk:Ag' wB (w.heap.size+2) wB w')=>hid (Az (hx.keep (HB0.out.trans (hk.2.1.mono (by omega)))))
 have HY:=fun (w':World) (hk:Ag' wB (w.heap.size+2) wB w')=>hid (Az (hy.keep (HB0.out.trans (hk.2.1.mono (by omega)))))
 have H0:=Ag'.start wB (w.heap.size+2)
 have l1:=Ah x;have l2:=Ah' x;have l3:=Ah y;have l4:=Ah' y
 have HL:=hid (show len x.num.natAbs≤34359738368∧len x.den≤34359738368∧len y.num.natAbs≤34359738368∧len y.den≤34359738368 by omega)
 have n1:0<x.num.natAbs:=by have:x.num≠0:=fun e=>hx0 (Rat.num_eq_zero.1 e);omega
 have n2:0<y.num.natAbs:=by have:y.num≠0:=fun e=>hy0 (Rat.num_eq_zero.1 e);omega
 have n3:0<x.den:=x.den_pos
 have n4:0<y.den:=y.den_pos
 have htest:(Ao x.den y.den==0)=false:=by rw [Ct'];exact dF_ h
 clear h
 obtain ⟨p,hp⟩:=eX (bitlen x.num.natAbs)
 obtain ⟨q,hq⟩:=eX (bitlen y.den)
 obtain ⟨r,hr⟩:=eX (bitlen y.num.natAbs)
 obtain ⟨t,ht'⟩:=eX (bitlen x.den)
 have bp:p≤2199023255552:=by rw [hp];exact AH (by omega)
 have bq:q≤2199023255552:=by rw [hq];exact AH (by omega)
 have br:r≤2199023255552:=by rw [hr];exact AH (by omega)
 have bt:t≤2199023255552:=by rw [ht'];exact AH (by omega)
 have HP0:=hid hp;have HQ0:=hid hq;have HR0:=hid hr;have HT0:=hid ht'
 have hM:Ao (x.num.natAbs*y.den) (y.num.natAbs*x.den)=1:=by
   have:y.num.natAbs*x.den<x.num.natAbs*y.den:=Ek n1 n4 (by rw [←hp,←hq,←hr,←ht'] at h2 ⊢;omega)
   unfold Ao
   rw [if_neg (by omega),if_neg (by omega)]
 rw [←hp,←hq,←hr,←ht'] at h2
 have HM:=hid hM
 clear hp hq hr ht' hM
 clear hs ht l1 l2 l3 l4 hx0 hy0
 go_enter Tryz.func52,Tryz.ntmps52
 go_wp2_with fail
 rw [←hwB]
 clear hwB
 go_region_held3 (fun w'=>(∀ b o,b<w.heap.size+2→w'.cell? ⟨b,o,none⟩=wB.cell? ⟨b,o,none⟩)∧Below (w.heap.size+2) wB w'∧Aj' wB w')
   (first | exact H0 | exact hk2 | exact hk1)
   (first | (go_at_call_of 43 (Value.agg #[.bool (decide (x.num<0)),.slice A1 (len x.num.natAbs) c1,.slice A2 (len (below x.den)) c2]);refine ((HX _ ?_).out).mono ?_;assumption;rintro e w1 ⟨vb,rfl,hvb,hbl1⟩;have hk1:=Ag'.call (by assumption) (Nat.le_of_eq HSZ.out.symm) hbl1) | (go_at_call_of 43 (Value.agg #[.bool (decide (y.num<0)),.slice A3 (len y.num.natAbs) c3,.slice A4 (len (below y.den)) c4]);refine ((HY _ ?_).out).mono ?_;assumption;rintro e w2 ⟨vd,rfl,hvd,hbl2⟩;have hk2:=Ag'.call (by assumption) (Nat.le_of_eq HSZ.out.symm) hbl2))
 rename_i hHl
 clear hHl
 have hb2:=hvb.keep hbl2
 have HB2:=hid (HB0.out.trans (hk2.2.1.mono (by omega)))
 have HBB:=hid hk2.2.1
 have hc2:=hk2.1
 have hx2':=hx1.keep HB2.out
 have hy2':=hy1.keep HB2.out
 have HC1:=hid (Bi' hb2 hvd)
 try rw [htest] at HC1
 clear HX HY hbl1 hbl2 hvb hk1 hk2 H0
 go_wp2_with fail
 refine (HC1.out).mono ?_
 rintro e w3' ⟨rfl,k,rfl⟩
 have hb3:=hb2.drewN k
 have hd3:=hvd.drewN k
 have hx3:=hx2'.drewN k
 have hy3:=hy2'.drewN k
 have HB3:=hid (Ae' HB2.out (As w2 k))
 have HBB3:=hid (HBB.out.trans (show Below (w.heap.size+2) w2 (w2.drewN k) from ⟨rfl,rfl,rfl,nL _,fun _ _=>rfl⟩))
 clear hb2 hvd hx2' hy2' HB2 HBB hc2 HC1
 generalize w2.drewN k=w3 at hb3 hd3 hx3 hy3 HB3 HBB3 ⊢
 have hc3:=Aq HBB3.out
 have H3:=Ag'.begin (wS:=w3) HBB3.out rfl
 have HP:=fun (w':World) (hk:Ag' wB (w.heap.size+2) w3 w')=>hid (AC (hk.2.2 _ _ hx3) (nT HL.out.1 (by decide)))
 have HQ:=fun (w':World) (hk:Ag' wB (w.heap.size+2) w3 w')=>hid (AC (hk.2.2 _ _ hd3) (nT HL.out.2.2.2 (by decide)))
 have HR:=fun (w':World) (hk:Ag' wB (w.heap.size+2) w3 w')=>hid (AC (hk.2.2 _ _ hy3) (nT HL.out.2.2.1 (by decide)))
 have HT:=fun (w':World) (hk:Ag' wB (w.heap.size+2) w3 w')=>hid (AC (hk.2.2 _ _ hb3) (nT HL.out.2.1 (by decide)))
 rw [←HP0.out] at HP
 rw [←HQ0.out] at HQ
 rw [←HR0.out] at HR
 rw [←HT0.out] at HT
 have e1:IntKind.i64.wrap (((p:Nat):Int)+((q:Nat):Int))=((p:Nat):Int)+((q:Nat):Int):=by rw [IntKind.wrap_i64];omega
 have e2:IntKind.i64.wrap (((p:Nat):Int)+((q:Nat):Int) - ((r:Nat):Int))=((p:Nat):Int)+((q:Nat):Int) - ((r:Nat):Int):=by rw [IntKind.wrap_i64];omega
 have e3:IntKind.i64.wrap (((p:Nat):Int)+((q:Nat):Int) - ((r:Nat):Int) - ((t:Nat):Int))=((p:Nat):Int)+((q:Nat):Int) - ((r:Nat):Int) - ((t:Nat):Int):=by rw [IntKind.wrap_i64];omega
 go_wp2_with fail
 go_region_held3 (fun w'=>(∀ b o,b<w.heap.size+2→w'.cell? ⟨b,o,none⟩=wB.cell? ⟨b,o,none⟩)∧Below (w.heap.size+2) wB w'∧Aj' w3 w')
   (first | exact H3 | assumption)
   (first | (go_at_call_of 93 (Value.slice A1 (len x.num.natAbs) c1);refine ((HP _ ?_).out).mono ?_;assumption;rintro e w4 ⟨rfl,rfl⟩) | (go_at_call_of 93 vd;refine ((HQ _ ?_).out).mono ?_;assumption;rintro e w4 ⟨rfl,rfl⟩) | (go_at_call_of 93 (Value.slice A3 (len y.num.natAbs) c3);refine ((HR _ ?_).out).mono ?_;assumption;rintro e w4 ⟨rfl,rfl⟩) | (go_at_call_of 93 vb;refine ((HT _ ?_).out).mono ?_;assumption;rintro e w4 ⟨rfl,rfl⟩))
 rename_i hHl
 generalize w3.drew=w4 at hHl ⊢
 obtain ⟨hc4,hb4,hs4⟩:=hHl
 have hx4:=hs4 _ _ hx3
 have hy4:=hs4 _ _ hy3
 have hvb4:=hs4 _ _ hb3
 have hvd4:=hs4 _ _ hd3
 have HB4:=hid (HB0.out.trans (hb4.mono (by omega)))
 have HBB4:=hid hb4
 clear hc3 hs4 hb4 HP HQ HR HT H3 hx3 hy3 hb3 hd3 HB3 HBB3
 obtain ⟨D,hD⟩:=eX (((p:Nat):Int)+((q:Nat):Int) - ((r:Nat):Int) - ((t:Nat):Int):Int)
 rw [←hD]
 have hD1:¬ D < -1∧1<D:=by omega
 obtain ⟨hD2,hD3⟩:=hD1
 have HC9:=hid (BJ' (w:=w4) D 0)
 have hci:AS D 0=1:=by unfold AS;first | rw [if_pos (by omega)] | rw [if_neg (by omega),if_neg (by omega)]
 rw [hci] at HC9
 clear hci hD e1 e2 e3 h2
 go_wp2_with fail
 refine (HC9.out).mono ?_
 rintro e w5 ⟨rfl,rfl⟩
 go_wp2_with fail
 go_ret
 exact Bj HM.out.symm HB4.out
theorem EJ {w:World} {vx vy:Value} {x y:Rat} (hx:Ad' w vx x) (hy:Ad' w vy y) (hs:Ab' x≤34359738368) (ht:Ab' y≤34359738368) (hx0:x≠0) (hy0:y≠0) (h:x.den≠y.den) (h2 : -1≤((bitlen x.num.natAbs:Nat):Int)+(bitlen y.den:Nat) - (bitlen y.num.natAbs:Nat) - (bitlen x.den:Nat)∧((bitlen x.num.natAbs:Nat):Int)+(bitlen y.den:Nat) - (bitlen y.num.natAbs:Nat) - (bitlen x.den:Nat)≤1) :
   Calls Tryz.prog 52 #[vx,vy] w (AP' w (Ao (x.num.natAbs*y.den) (y.num.natAbs*x.den))):=by
 obtain ⟨A1,c1,A2,c2,rfl,hx1,hx2⟩:=hx.opened
 obtain ⟨A3,c3,A4,c4,rfl,hy1,hy2⟩:=hy.opened
 obtain ⟨wB,hwB⟩:=eX ((w.alloc (.cells #[.bool (decide (x.num<0)),.slice A1 (len x.num.natAbs) c1,.slice A2 (len (below x.den)) c2] 32)).alloc (.cells #[.bool (decide (y.num<0)),.slice A3 (len y.num.natAbs) c3,.slice A4 (len (below y.den)) c4] 32))
 obtain ⟨b0,gA,gA2⟩:=AA' hwB
 obtain ⟨k0,k1,k2⟩:=Ae gA
 obtain ⟨k3,k4,k5⟩:=Ae gA2
 have hsz:wB.heap.size=w.heap.size+2:=by rw [hwB];simp
 have HSZ:=hid hsz
 have HB0:=hid b0
 have hlt1:w.heap.size<w.heap.size+2:=by omega
 have hlt2:w.heap.size+1<w.heap.size+2:=by omega
 clear gA gA2 b0 hsz
 have HX:=fun (w':World) (hk:Ag' wB (w.heap.size+2) wB w')=>hid (Az (hx.keep (HB0.out.trans (hk.2.1.mono (by omega)))))
 have HY:=fun (w':World) (hk:Ag' wB (w.heap.size+2) wB w')=>hid (Az (hy.keep (HB0.out.trans (hk.2.1.mono (by omega)))))
 have H0:=Ag'.start wB (w.heap.size+2)
 have l1:=Ah x;have l2:=Ah' x;have l3:=Ah y;have l4:=Ah' y
 have HL:=hid (show len x.num.natAbs≤34359738368∧len x.den≤34359738368∧len y.num.natAbs≤34359738368∧len y.den≤34359738368 by omega)
 have n1:0<x.num.natAbs:=by have:x.num≠0:=fun e=>hx0 (Rat.num_eq_zero.1 e);omega
 have n2:0<y.num.natAbs:=by have:y.num≠0:=fun e=>hy0 (Rat.num_eq_zero.1 e);omega
 have n3:0<x.den:=x.den_pos
 have n4:0<y.den:=y.den_pos
 have htest:(Ao x.den y.den==0)=false:=by rw [Ct'];exact dF_ h
 clear h
 obtain ⟨p,hp⟩:=eX (bitlen x.num.natAbs)
 obtain ⟨q,hq⟩:=eX (bitlen y.den)
 obtain ⟨r,hr⟩:=eX (bitlen y.num.natAbs)
 obtain ⟨t,ht'⟩:=eX (bitlen x.den)
 have bp:p≤2199023255552:=by rw [hp];exact AH (by omega)
 have bq:q≤2199023255552:=by rw [hq];exact AH (by omega)
 have br:r≤2199023255552:=by rw [hr];exact AH (by omega)
 have bt:t≤2199023255552:=by rw [ht'];exact AH (by omega)
 have HP0:=hid hp;have HQ0:=hid hq;have HR0:=hid hr;have HT0:=hid ht'
 rw [←hp,←hq,←hr,←ht'] at h2
 clear hp hq hr ht'
 clear hs ht l1 l2 l3 l4 hx0 hy0
 go_enter Tryz.func52,Tryz.ntmps52
 go_wp2_with fail
 rw [←hwB]
 clear hwB
 go_region_held3 (fun w'=>(∀ b o,b<w.heap.size+2→w'.cell? ⟨b,o,none⟩=wB.cell? ⟨b,o,none⟩)∧Below (w.heap.size+2) wB w'∧Aj' wB w')
   (first | exact H0 | exact hk2 | exact hk1)
   (first | (go_at_call_of 43 (Value.agg #[.bool (decide (x.num<0)),.slice A1 (len x.num.natAbs) c1,.slice A2 (len (below x.den)) c2]);refine ((HX _ ?_).out).mono ?_;assumption;rintro e w1 ⟨vb,rfl,hvb,hbl1⟩;have hk1:=Ag'.call (by assumption) (Nat.le_of_eq HSZ.out.symm) hbl1) | (go_at_call_of 43 (Value.agg #[.bool (decide (y.num<0)),.slice A3 (len y.num.natAbs) c3,.slice A4 (len (below y.den)) c4]);refine ((HY _ ?_).out).mono ?_;assumption;rintro e w2 ⟨vd,rfl,hvd,hbl2⟩;have hk2:=Ag'.call (by assumption) (Nat.le_of_eq HSZ.out.symm) hbl2))
 rename_i hHl
 clear hHl
 have hb2:=hvb.keep hbl2
 have HB2:=hid (HB0.out.trans (hk2.2.1.mono (by omega)))
 have HBB:=hid hk2.2.1
 have hc2:=hk2.1
 have hx2':=hx1.keep HB2.out
 have hy2':=hy1.keep HB2.out
 have HC1:=hid (Bi' hb2 hvd)
 try rw [htest] at HC1
 clear HX HY hbl1 hbl2 hvb hk1 hk2 H0
 go_wp2_with fail
 refine (HC1.out).mono ?_
 rintro e w3' ⟨rfl,k,rfl⟩
 have hb3:=hb2.drewN k
 have hd3:=hvd.drewN k
 have hx3:=hx2'.drewN k
 have hy3:=hy2'.drewN k
 have HB3:=hid (Ae' HB2.out (As w2 k))
 have HBB3:=hid (HBB.out.trans (show Below (w.heap.size+2) w2 (w2.drewN k) from ⟨rfl,rfl,rfl,nL _,fun _ _=>rfl⟩))
 clear hb2 hvd hx2' hy2' HB2 HBB hc2 HC1
 generalize w2.drewN k=w3 at hb3 hd3 hx3 hy3 HB3 HBB3 ⊢
 have hc3:=Aq HBB3.out
 have H3:=Ag'.begin (wS:=w3) HBB3.out rfl
 have HP:=fun (w':World) (hk:Ag' wB (w.heap.size+2) w3 w')=>hid (AC (hk.2.2 _ _ hx3) (nT HL.out.1 (by decide)))
 have HQ:=fun (w':World) (hk:Ag' wB (w.heap.size+2) w3 w')=>hid (AC (hk.2.2 _ _ hd3) (nT HL.out.2.2.2 (by decide)))
 have HR:=fun (w':World) (hk:Ag' wB (w.heap.size+2) w3 w')=>hid (AC (hk.2.2 _ _ hy3) (nT HL.out.2.2.1 (by decide)))
 have HT:=fun (w':World) (hk:Ag' wB (w.heap.size+2) w3 w')=>hid (AC (hk.2.2 _ _ hb3) (nT HL.out.2.1 (by decide)))
 rw [←HP0.out] at HP
 rw [←HQ0.out] at HQ
 rw [←HR0.out] at HR
 rw [←HT0.out] at HT
 have e1:IntKind.i64.wrap (((p:Nat):Int)+((q:Nat):Int))=((p:Nat):Int)+((q:Nat):Int):=by rw [IntKind.wrap_i64];omega
 have e2:IntKind.i64.wrap (((p:Nat):Int)+((q:Nat):Int) - ((r:Nat):Int))=((p:Nat):Int)+((q:Nat):Int) - ((r:Nat):Int):=by rw [IntKind.wrap_i64];omega
 have e3:IntKind.i64.wrap (((p:Nat):Int)+((q:Nat):Int) - ((r:Nat):Int) - ((t:Nat):Int))=((p:Nat):Int)+((q:Nat):Int) - ((r:Nat):Int) - ((t:Nat):Int):=by rw [IntKind.wrap_i64];omega
 go_wp2_with fail
 go_region_held3 (fun w'=>(∀ b o,b<w.heap.size+2→w'.cell? ⟨b,o,none⟩=wB.cell? ⟨b,o,none⟩)∧Below (w.heap.size+2) wB w'∧Aj' w3 w')
   (first | exact H3 | assumption)
   (first | (go_at_call_of 93 (Value.slice A1 (len x.num.natAbs) c1);refine ((HP _ ?_).out).mono ?_;assumption;rintro e w4 ⟨rfl,rfl⟩) | (go_at_call_of 93 vd;refine ((HQ _ ?_).out).mono ?_;assumption;rintro e w4 ⟨rfl,rfl⟩) | (go_at_call_of 93 (Value.slice A3 (len y.num.natAbs) c3);refine ((HR _ ?_).out).mono ?_;assumption;rintro e w4 ⟨rfl,rfl⟩) | (go_at_call_of 93 vb;refine ((HT _ ?_).out).mono ?_;assumption;rintro e w4 ⟨rfl,rfl⟩))
 rename_i hHl
 generalize w3.drew=w4 at hHl ⊢
 obtain ⟨hc4,hb4,hs4⟩:=hHl
 have hx4:=hs4 _ _ hx3
 have hy4:=hs4 _ _ hy3
 have hvb4:=hs4 _ _ hb3
 have hvd4:=hs4 _ _ hd3
 have HB4:=hid (HB0.out.trans (hb4.mono (by omega)))
 have HBB4:=hid hb4
 clear hc3 hs4 hb4 HP HQ HR HT H3 hx3 hy3 hb3 hd3 HB3 HBB3
 obtain ⟨D,hD⟩:=eX (((p:Nat):Int)+((q:Nat):Int) - ((r:Nat):Int) - ((t:Nat):Int):Int)
 rw [←hD]
 have hD2:¬ D < -1:=by omega
 have hD3:¬ 1<D:=by omega
 clear hD e1 e2 e3 h2
 have H4:=Ag'.begin (wS:=w4) HBB4.out rfl
 have HM1:=fun (w':World) (hk:Ag' wB (w.heap.size+2) w4 w')=>hid (AL' (hk.2.2 _ _ hx4) (hk.2.2 _ _ hvd4) (nT HL.out.1 (by decide)) (nT HL.out.2.2.2 (by decide)))
 have HM2:=fun (w':World) (hk:Ag' wB (w.heap.size+2) w4 w')=>hid (AL' (hk.2.2 _ _ hy4) (hk.2.2 _ _ hvb4) (nT HL.out.2.2.1 (by decide)) (nT HL.out.2.1 (by decide)))
 go_wp2_with fail
 go_region_held3 (fun w'=>(∀ b o,b<w.heap.size+2→w'.cell? ⟨b,o,none⟩=wB.cell? ⟨b,o,none⟩)∧Below (w.heap.size+2) wB w'∧Aj' w4 w')
   (first | exact H4 | exact hk7 | exact hk6 | exact hk5)
   (first | (go_at_call_of 47 (Value.slice A1 (len x.num.natAbs) c1);refine ((HM1 _ ?_).out).mono ?_;assumption;rintro e w5 ⟨v5,rfl,hv5,hbl5⟩;have hk5:=Ag'.call (by assumption) (Nat.le_of_eq HSZ.out.symm) hbl5) | (go_at_call_of 47 (Value.slice A3 (len y.num.natAbs) c3);refine ((HM2 _ ?_).out).mono ?_;assumption;rintro e w6 ⟨v6,rfl,hv6,hbl6⟩;have hk6:=Ag'.call (by assumption) (Nat.le_of_eq HSZ.out.symm) hbl6) | (go_at_call 80;refine (Bi' (hv5.keep hbl6) hv6).mono ?_;rintro e w7 ⟨rfl,k7,rfl⟩;have hk7:=Ag'.call (by assumption) (Nat.le_of_eq HSZ.out.symm) (As w6 k7)))
 rename_i hHl
 clear hHl
 go_wp2_with fail
 go_ret
 exact Bj rfl (HB0.out.trans (hk7.2.1.mono (by omega)))
theorem Db {w:World} {vx vy:Value} {x y:Rat} (hx:Ad' w vx x) (hy:Ad' w vy y) (hs:Ab' x≤34359738368) (ht:Ab' y≤34359738368) (hx0:x≠0) (hy0:y≠0) :
   Calls Tryz.prog 52 #[vx,vy] w (AP' w (Ao (x.num.natAbs*y.den) (y.num.natAbs*x.den))):=by
 by_cases h:x.den=y.den
 · exact E6 hx hy hs ht hx0 hy0 h
 · rcases Int.lt_or_le (((bitlen x.num.natAbs:Nat):Int)+(bitlen y.den:Nat) - (bitlen y.num.natAbs:Nat) - (bitlen x.den:Nat)) (-1) with h2 | h2
   · exact E6' hx hy hs ht hx0 hy0 h h2
   · rcases Int.lt_or_le 1 (((bitlen x.num.natAbs:Nat):Int)+(bitlen y.den:Nat) - (bitlen y.num.natAbs:Nat) - (bitlen x.den:Nat)) with h3 | h3
     · exact E7 hx hy hs ht hx0 hy0 h h3
     · exact EJ hx hy hs ht hx0 hy0 h ⟨h2,h3⟩
def cmpQ (x y:Rat):Int:=if x<y then -1 else if x=y then 0 else 1
theorem B1' (x y:Rat):cmpQ x y=AS (x.num*y.den) (y.num*x.den):=by
 unfold cmpQ AS
 simp only [Rat.lt_iff,Rat.eq_iff_mul_eq_mul]
theorem Dr' (a b:Nat):AS ((a:Nat):Int) ((b:Nat):Int)=Ao a b:=by
 unfold AS Ao
 simp only [Int.ofNat_lt,Int.natCast_inj]
theorem GQ' {x y:Rat} (hx:0<x.num) (hy:0<y.num):cmpQ x y=Ao (x.num.natAbs*y.den) (y.num.natAbs*x.den):=by
 rw [B1',←Dr',Int.natCast_mul,Int.natCast_mul]
 rw [show ((x.num.natAbs:Nat):Int)=x.num by omega,show ((y.num.natAbs:Nat):Int)=y.num by omega]
theorem GR' {x y:Rat} (hx:x.num<0) (hy:y.num<0):cmpQ x y=Ao (y.num.natAbs*x.den) (x.num.natAbs*y.den):=by
 rw [B1',←Dr',Int.natCast_mul,Int.natCast_mul]
 rw [show ((x.num.natAbs:Nat):Int) = -x.num by omega,show ((y.num.natAbs:Nat):Int) = -y.num by omega]
 rw [Int.neg_mul,Int.neg_mul]
 unfold AS
 split
 · rw [if_pos (by omega)]
 · split
   · rw [if_neg (by omega),if_pos (by omega)]
   · rw [if_neg (by omega),if_neg (by omega)]
theorem EJ' {n:Int} {d:Nat} (hd:0<d):(n<0→n*d<0)∧(n=0→n*d=0)∧(0<n→0<n*d):=by
 have h:(0:Int)<d:=by omega
 refine ⟨fun e=>Int.mul_neg_of_neg_of_pos e h,fun e=>by rw [e,Int.zero_mul],fun e=>Int.mul_pos e h⟩
theorem DL {x y:Rat} (h:x.num.sign≠y.num.sign∨x.num.sign=0∧y.num.sign=0):cmpQ x y=AS x.num.sign y.num.sign:=by
 rw [B1']
 obtain ⟨a1,a2,a3⟩:=EJ' (n:=x.num) y.den_pos
 obtain ⟨b1,b2,b3⟩:=EJ' (n:=y.num) x.den_pos
 generalize x.num*y.den=p at *
 generalize y.num*x.den=q at *
 rcases Int.lt_trichotomy x.num 0 with hx | hx | hx <;> rcases Int.lt_trichotomy y.num 0 with hy | hy | hy
 all_goals
   try rw [Int.sign_eq_neg_one_of_neg hx] at h ⊢
   try rw [Int.sign_eq_neg_one_of_neg hy] at h ⊢
   try rw [Int.sign_eq_one_of_pos hx] at h ⊢
   try rw [Int.sign_eq_one_of_pos hy] at h ⊢
   try rw [show x.num.sign=0 by rw [hx];rfl] at h ⊢
   try rw [show y.num.sign=0 by rw [hy];rfl] at h ⊢
   first
     | exact absurd h (by decide)
     | (simp only [hx,hy,forall_const] at a1 a2 a3 b1 b2 b3
        unfold AS
        first
          | (rw [if_pos (by omega),if_pos (by decide)])
          | (rw [if_neg (by omega),if_neg (by omega),if_neg (by decide),if_neg (by decide)])
          | (rw [if_neg (by omega),if_pos (by omega),if_neg (by decide),if_pos (by decide)]))
theorem FF' {w:World} {vx vy:Value} {x y:Rat} (hx:Ad' w vx x) (hy:Ad' w vy y) (hs:Ab' x≤34359738368) (ht:Ab' y≤34359738368) (h:x.num.sign≠y.num.sign) :
   Calls Tryz.prog 21 #[vx,vy] w (AP' w (cmpQ x y)):=by
 obtain ⟨A1,c1,A2,c2,rfl,hx1,hx2⟩:=hx.opened
 obtain ⟨A3,c3,A4,c4,rfl,hy1,hy2⟩:=hy.opened
 obtain ⟨wB,hwB⟩:=eX ((w.alloc (.cells #[.bool (decide (x.num<0)),.slice A1 (len x.num.natAbs) c1,.slice A2 (len (below x.den)) c2] 32)).alloc (.cells #[.bool (decide (y.num<0)),.slice A3 (len y.num.natAbs) c3,.slice A4 (len (below y.den)) c4] 32))
 obtain ⟨b0,gA,gA2⟩:=AA' hwB
 obtain ⟨k0,k1,k2⟩:=Ae gA
 obtain ⟨k3,k4,k5⟩:=Ae gA2
 have hsz:wB.heap.size=w.heap.size+2:=by rw [hwB];simp
 have HSZ:=hid hsz
 have HB0:=hid b0
 have hlt1:w.heap.size<w.heap.size+2:=by omega
 have hlt2:w.heap.size+1<w.heap.size+2:=by omega
 clear gA gA2 b0 hsz
 have HX:=fun (w':World) (hk:Ag' wB (w.heap.size+2) wB w')=>hid (AM' (hx.keep (HB0.out.trans (hk.2.1.mono (by omega)))))
 have HY:=fun (w':World) (hk:Ag' wB (w.heap.size+2) wB w')=>hid (AM' (hy.keep (HB0.out.trans (hk.2.1.mono (by omega)))))
 have H0:=Ag'.start wB (w.heap.size+2)
 have hM:=DL (.inl h)
 obtain ⟨sx,hsx⟩:=eX x.num.sign
 obtain ⟨sy,hsy⟩:=eX y.num.sign
 rw [←hsx,←hsy] at hM
 rw [←hsx] at HX
 rw [←hsy] at HY
 have hne:(sx != sy)=true:=by rw [bne_iff_ne,hsx,hsy];exact h
 have HM:=hid hM
 clear hM h hsx hsy
 clear hs ht
 go_enter Tryz.func21,Tryz.ntmps21
 go_wp2_with fail
 rw [←hwB]
 clear hwB
 go_region_held3 (fun w'=>(∀ b o,b<w.heap.size+2→w'.cell? ⟨b,o,none⟩=wB.cell? ⟨b,o,none⟩)∧Below (w.heap.size+2) wB w'∧Aj' wB w')
   (first | exact H0 | exact hk2 | exact hk1)
   (first | (go_at_call_of 31 (Value.agg #[.bool (decide (x.num<0)),.slice A1 (len x.num.natAbs) c1,.slice A2 (len (below x.den)) c2]);refine ((HX _ ?_).out).mono ?_;assumption;rintro e w1 ⟨rfl,hbl1⟩;have hk1:=Ag'.call (by assumption) (Nat.le_of_eq HSZ.out.symm) hbl1) | (go_at_call_of 31 (Value.agg #[.bool (decide (y.num<0)),.slice A3 (len y.num.natAbs) c3,.slice A4 (len (below y.den)) c4]);refine ((HY _ ?_).out).mono ?_;assumption;rintro e w2 ⟨rfl,hbl2⟩;have hk2:=Ag'.call (by assumption) (Nat.le_of_eq HSZ.out.symm) hbl2))
 rename_i hHl
 clear hHl
 have hc2:=hk2.1
 have HB2:=hid (HB0.out.trans (hk2.2.1.mono (by omega)))
 clear HX HY hbl1 hbl2 hk1 hk2 H0
 have HC9:=hid (BJ' (w:=w2) sx sy)
 go_wp2_with fail
 refine (HC9.out).mono ?_
 rintro e w5 ⟨rfl,rfl⟩
 go_wp2_with fail
 go_ret
 exact Bj HM.out.symm HB2.out
theorem E7' {w:World} {vx vy:Value} {x y:Rat} (hx:Ad' w vx x) (hy:Ad' w vy y) (hs:Ab' x≤34359738368) (ht:Ab' y≤34359738368) (h:x.num.sign=0∧y.num.sign=0) :
   Calls Tryz.prog 21 #[vx,vy] w (AP' w (cmpQ x y)):=by
 obtain ⟨A1,c1,A2,c2,rfl,hx1,hx2⟩:=hx.opened
 obtain ⟨A3,c3,A4,c4,rfl,hy1,hy2⟩:=hy.opened
 obtain ⟨wB,hwB⟩:=eX ((w.alloc (.cells #[.bool (decide (x.num<0)),.slice A1 (len x.num.natAbs) c1,.slice A2 (len (below x.den)) c2] 32)).alloc (.cells #[.bool (decide (y.num<0)),.slice A3 (len y.num.natAbs) c3,.slice A4 (len (below y.den)) c4] 32))
 obtain ⟨b0,gA,gA2⟩:=AA' hwB
 obtain ⟨k0,k1,k2⟩:=Ae gA
 obtain ⟨k3,k4,k5⟩:=Ae gA2
 have hsz:wB.heap.size=w.heap.size+2:=by rw [hwB];simp
 have HSZ:=hid hsz
 have HB0:=hid b0
 have hlt1:w.heap.size<w.heap.size+2:=by omega
 have hlt2:w.heap.size+1<w.heap.size+2:=by omega
 clear gA gA2 b0 hsz
 have HX:=fun (w':World) (hk:Ag' wB (w.heap.size+2) wB w')=>hid (AM' (hx.keep (HB0.out.trans (hk.2.1.mono (by omega)))))
 have HY:=fun (w':World) (hk:Ag' wB (w.heap.size+2) wB w')=>hid (AM' (hy.keep (HB0.out.trans (hk.2.1.mono (by omega)))))
 have H0:=Ag'.start wB (w.heap.size+2)
 have hM:=DL (.inr h)
 rw [h.1,h.2] at hM
 rw [h.1] at HX
 rw [h.2] at HY
 have HM:=hid hM
 clear hM h
 clear hs ht
 go_enter Tryz.func21,Tryz.ntmps21
 go_wp2_with fail
 rw [←hwB]
 clear hwB
 go_region_held3 (fun w'=>(∀ b o,b<w.heap.size+2→w'.cell? ⟨b,o,none⟩=wB.cell? ⟨b,o,none⟩)∧Below (w.heap.size+2) wB w'∧Aj' wB w')
   (first | exact H0 | exact hk2 | exact hk1)
   (first | (go_at_call_of 31 (Value.agg #[.bool (decide (x.num<0)),.slice A1 (len x.num.natAbs) c1,.slice A2 (len (below x.den)) c2]);refine ((HX _ ?_).out).mono ?_;assumption;rintro e w1 ⟨rfl,hbl1⟩;have hk1:=Ag'.call (by assumption) (Nat.le_of_eq HSZ.out.symm) hbl1) | (go_at_call_of 31 (Value.agg #[.bool (decide (y.num<0)),.slice A3 (len y.num.natAbs) c3,.slice A4 (len (below y.den)) c4]);refine ((HY _ ?_).out).mono ?_;assumption;rintro e w2 ⟨rfl,hbl2⟩;have hk2:=Ag'.call (by assumption) (Nat.le_of_eq HSZ.out.symm) hbl2))
 rename_i hHl
 clear hHl
 have hc2:=hk2.1
 have HB2:=hid (HB0.out.trans (hk2.2.1.mono (by omega)))
 clear HX HY hbl1 hbl2 hk1 hk2 H0
 have HC9:=hid (BJ' (w:=w2) 0 0)
 go_wp2_with fail
 refine (HC9.out).mono ?_
 rintro e w5 ⟨rfl,rfl⟩
 go_wp2_with fail
 go_ret
 exact Bj HM.out.symm HB2.out
theorem FG {w:World} {vx vy:Value} {x y:Rat} (hx:Ad' w vx x) (hy:Ad' w vy y) (hs:Ab' x≤34359738368) (ht:Ab' y≤34359738368) (h:x.num<0∧y.num<0) :
   Calls Tryz.prog 21 #[vx,vy] w (AP' w (cmpQ x y)):=by
 obtain ⟨A1,c1,A2,c2,rfl,hx1,hx2⟩:=hx.opened
 obtain ⟨A3,c3,A4,c4,rfl,hy1,hy2⟩:=hy.opened
 obtain ⟨wB,hwB⟩:=eX ((w.alloc (.cells #[.bool (decide (x.num<0)),.slice A1 (len x.num.natAbs) c1,.slice A2 (len (below x.den)) c2] 32)).alloc (.cells #[.bool (decide (y.num<0)),.slice A3 (len y.num.natAbs) c3,.slice A4 (len (below y.den)) c4] 32))
 obtain ⟨b0,gA,gA2⟩:=AA' hwB
 obtain ⟨k0,k1,k2⟩:=Ae gA
 obtain ⟨k3,k4,k5⟩:=Ae gA2
 have hsz:wB.heap.size=w.heap.size+2:=by rw [hwB];simp
 have HSZ:=hid hsz
 have HB0:=hid b0
 have hlt1:w.heap.size<w.heap.size+2:=by omega
 have hlt2:w.heap.size+1<w.heap.size+2:=by omega
 clear gA gA2 b0 hsz
 have HX:=fun (w':World) (hk:Ag' wB (w.heap.size+2) wB w')=>hid (AM' (hx.keep (HB0.out.trans (hk.2.1.mono (by omega)))))
 have HY:=fun (w':World) (hk:Ag' wB (w.heap.size+2) wB w')=>hid (AM' (hy.keep (HB0.out.trans (hk.2.1.mono (by omega)))))
 have H0:=Ag'.start wB (w.heap.size+2)
 have HM:=hid (GR' h.1 h.2)
 have e1:x.num.sign = -1:=Int.sign_eq_neg_one_of_neg h.1
 have e2:y.num.sign = -1:=Int.sign_eq_neg_one_of_neg h.2
 rw [e1] at HX
 rw [e2] at HY
 have H1:=hid ht;have H2:=hid hs
 have N1:Hid (y≠0):=fun e=>by rw [e] at h;simp at h
 have N2:Hid (x≠0):=fun e=>by rw [e] at h;simp at h
 have HNG:=hid h
 clear e1 e2 h
 clear hs ht
 go_enter Tryz.func21,Tryz.ntmps21
 go_wp2_with fail
 rw [←hwB]
 clear hwB
 go_region_held3 (fun w'=>(∀ b o,b<w.heap.size+2→w'.cell? ⟨b,o,none⟩=wB.cell? ⟨b,o,none⟩)∧Below (w.heap.size+2) wB w'∧Aj' wB w')
   (first | exact H0 | exact hk2 | exact hk1)
   (first | (go_at_call_of 31 (Value.agg #[.bool (decide (x.num<0)),.slice A1 (len x.num.natAbs) c1,.slice A2 (len (below x.den)) c2]);refine ((HX _ ?_).out).mono ?_;assumption;rintro e w1 ⟨rfl,hbl1⟩;have hk1:=Ag'.call (by assumption) (Nat.le_of_eq HSZ.out.symm) hbl1) | (go_at_call_of 31 (Value.agg #[.bool (decide (y.num<0)),.slice A3 (len y.num.natAbs) c3,.slice A4 (len (below y.den)) c4]);refine ((HY _ ?_).out).mono ?_;assumption;rintro e w2 ⟨rfl,hbl2⟩;have hk2:=Ag'.call (by assumption) (Nat.le_of_eq HSZ.out.symm) hbl2))
 rename_i hHl
 clear hHl
 have hc2:=hk2.1
 have HB2:=hid (HB0.out.trans (hk2.2.1.mono (by omega)))
 clear HX HY hbl1 hbl2 hk1 hk2 H0
 have HC9:=hid (Db (hy.keep HB2.out) (hx.keep HB2.out) H1.out H2.out N1.out N2.out)
 have hng:decide (x.num<0)=true:=dT_ HNG.out.1
 rw [hng] at HC9
 have HC9':=HC9
 clear HC9 hx hy hx1 hx2 hy1 hy2
 go_wp2_with fail
 refine (HC9'.out).mono ?_
 rintro e w5 ⟨rfl,hb5⟩
 go_wp2_with fail
 go_ret
 exact Bj HM.out.symm (Ae' HB2.out hb5)
theorem FG' {w:World} {vx vy:Value} {x y:Rat} (hx:Ad' w vx x) (hy:Ad' w vy y) (hs:Ab' x≤34359738368) (ht:Ab' y≤34359738368) (h:0<x.num∧0<y.num) :
   Calls Tryz.prog 21 #[vx,vy] w (AP' w (cmpQ x y)):=by
 obtain ⟨A1,c1,A2,c2,rfl,hx1,hx2⟩:=hx.opened
 obtain ⟨A3,c3,A4,c4,rfl,hy1,hy2⟩:=hy.opened
 obtain ⟨wB,hwB⟩:=eX ((w.alloc (.cells #[.bool (decide (x.num<0)),.slice A1 (len x.num.natAbs) c1,.slice A2 (len (below x.den)) c2] 32)).alloc (.cells #[.bool (decide (y.num<0)),.slice A3 (len y.num.natAbs) c3,.slice A4 (len (below y.den)) c4] 32))
 obtain ⟨b0,gA,gA2⟩:=AA' hwB
 obtain ⟨k0,k1,k2⟩:=Ae gA
 obtain ⟨k3,k4,k5⟩:=Ae gA2
 have hsz:wB.heap.size=w.heap.size+2:=by rw [hwB];simp
 have HSZ:=hid hsz
 have HB0:=hid b0
 have hlt1:w.heap.size<w.heap.size+2:=by omega
 have hlt2:w.heap.size+1<w.heap.size+2:=by omega
 clear gA gA2 b0 hsz
 have HX:=fun (w':World) (hk:Ag' wB (w.heap.size+2) wB w')=>hid (AM' (hx.keep (HB0.out.trans (hk.2.1.mono (by omega)))))
 have HY:=fun (w':World) (hk:Ag' wB (w.heap.size+2) wB w')=>hid (AM' (hy.keep (HB0.out.trans (hk.2.1.mono (by omega)))))
 have H0:=Ag'.start wB (w.heap.size+2)
 have HM:=hid (GQ' h.1 h.2)
 have e1:x.num.sign=1:=Int.sign_eq_one_of_pos h.1
 have e2:y.num.sign=1:=Int.sign_eq_one_of_pos h.2
 rw [e1] at HX
 rw [e2] at HY
 have H1:=hid hs;have H2:=hid ht
 have N1:Hid (x≠0):=fun e=>by rw [e] at h;simp at h
 have N2:Hid (y≠0):=fun e=>by rw [e] at h;simp at h
 have HNG:=hid h
 clear e1 e2 h
 clear hs ht
 go_enter Tryz.func21,Tryz.ntmps21
 go_wp2_with fail
 rw [←hwB]
 clear hwB
 go_region_held3 (fun w'=>(∀ b o,b<w.heap.size+2→w'.cell? ⟨b,o,none⟩=wB.cell? ⟨b,o,none⟩)∧Below (w.heap.size+2) wB w'∧Aj' wB w')
   (first | exact H0 | exact hk2 | exact hk1)
   (first | (go_at_call_of 31 (Value.agg #[.bool (decide (x.num<0)),.slice A1 (len x.num.natAbs) c1,.slice A2 (len (below x.den)) c2]);refine ((HX _ ?_).out).mono ?_;assumption;rintro e w1 ⟨rfl,hbl1⟩;have hk1:=Ag'.call (by assumption) (Nat.le_of_eq HSZ.out.symm) hbl1) | (go_at_call_of 31 (Value.agg #[.bool (decide (y.num<0)),.slice A3 (len y.num.natAbs) c3,.slice A4 (len (below y.den)) c4]);refine ((HY _ ?_).out).mono ?_;assumption;rintro e w2 ⟨rfl,hbl2⟩;have hk2:=Ag'.call (by assumption) (Nat.le_of_eq HSZ.out.symm) hbl2))
 rename_i hHl
 clear hHl
 have hc2:=hk2.1
 have HB2:=hid (HB0.out.trans (hk2.2.1.mono (by omega)))
 clear HX HY hbl1 hbl2 hk1 hk2 H0
 have HC9:=hid (Db (hx.keep HB2.out) (hy.keep HB2.out) H1.out H2.out N1.out N2.out)
 have hng:decide (x.num<0)=false:=dF_ (by have:=HNG.out.1;omega)
 rw [hng] at HC9
 have HC9':=HC9
 clear HC9 hx hy hx1 hx2 hy1 hy2
 go_wp2_with fail
 refine (HC9'.out).mono ?_
 rintro e w5 ⟨rfl,hb5⟩
 go_wp2_with fail
 go_ret
 exact Bj HM.out.symm (Ae' HB2.out hb5)
theorem AT {w:World} {vx vy:Value} {x y:Rat} (hx:Ad' w vx x) (hy:Ad' w vy y) (hs:Ab' x≤34359738368) (ht:Ab' y≤34359738368) :
   Calls Tryz.prog 21 #[vx,vy] w (AP' w (cmpQ x y)):=by
 by_cases h:x.num.sign=y.num.sign
 · rcases Int.lt_trichotomy x.num 0 with h1 | h1 | h1
   · refine FG hx hy hs ht ⟨h1,?_⟩
     rw [Int.sign_eq_neg_one_of_neg h1] at h
     exact Int.sign_eq_neg_one_iff_neg.1 h.symm
   · have e:x.num.sign=0:=by rw [h1];rfl
     exact E7' hx hy hs ht ⟨e,h ▸ e⟩
   · refine FG' hx hy hs ht ⟨h1,?_⟩
     rw [Int.sign_eq_one_of_pos h1] at h
     exact Int.sign_eq_one_iff_pos.1 h.symm
 · exact FF' hx hy hs ht h
end Go.Proofs.YtcicfnlljdnagaaGreatDoor
