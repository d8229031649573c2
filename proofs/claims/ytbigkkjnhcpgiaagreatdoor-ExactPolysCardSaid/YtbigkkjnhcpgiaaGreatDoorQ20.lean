/-
  Contracts of the functions that the law calls, for every input (BoxA BoxB NumJ BoxC).
-/
import Derived.Test.YtbigkkjnhcpgiaaGreatDoorQ00
import Derived.Test.YtbigkkjnhcpgiaaGreatDoorQ19
import Derived.Test.YtbigkkjnhcpgiaaGreatDoorQ10
import Derived.Test.YtbigkkjnhcpgiaaGreatDoorQ12
import Derived.Test.YtbigkkjnhcpgiaaGreatDoorQ09
set_option linter.all false
set_option maxRecDepth 100000
set_option maxHeartbeats 40000000
namespace Go.Proofs.YtbigkkjnhcpgiaaGreatDoor
open Lib (hid)
open Go.RowKit
open Vx
def Ao' (w:World) (v:Value) (a b:Rat):Prop :=
  ∃ v1 v2 v3 v4,v=.agg #[.bool (decide (a.num<0)),v1,v2,.bool (decide (b.num<0)),v3,v4]∧Nt w v1 a.num.natAbs∧Nt w v2 (below a.den)∧Nt w v3 b.num.natAbs∧Nt w v4 (below b.den)
theorem Ao'.keep {w w':World} {v:Value} {a b:Rat} (h:Ao' w v a b) (hb:Below w.heap.size w w'):Ao' w' v a b:=by
 obtain ⟨v1,v2,v3,v4,h0,h1,h2,h3,h4⟩:=h
 exact ⟨v1,v2,v3,v4,h0,h1.keep hb,h2.keep hb,h3.keep hb,h4.keep hb⟩
theorem Ao'.opened {w:World} {v:Value} {a b:Rat} (h:Ao' w v a b):∃ A1 c1 A2 c2 A3 c3 A4 c4,
   v=.agg #[.bool (decide (a.num<0)),.slice A1 (len a.num.natAbs) c1,.slice A2 (len (below a.den)) c2,.bool (decide (b.num<0)),.slice A3 (len b.num.natAbs) c3,.slice A4 (len (below b.den)) c4] ∧
   Ac' w (.agg #[.bool (decide (a.num<0)),.slice A1 (len a.num.natAbs) c1,.slice A2 (len (below a.den)) c2]) a∧Ac' w (.agg #[.bool (decide (b.num<0)),.slice A3 (len b.num.natAbs) c3,.slice A4 (len (below b.den)) c4]) b:=by
 obtain ⟨v1,v2,v3,v4,rfl,h1,h2,h3,h4⟩:=h
 obtain ⟨A1,c1,rfl,-⟩:=id h1
 obtain ⟨A2,c2,rfl,-⟩:=id h2
 obtain ⟨A3,c3,rfl,-⟩:=id h3
 obtain ⟨A4,c4,rfl,-⟩:=id h4
 exact ⟨A1,c1,A2,c2,A3,c3,A4,c4,rfl,⟨_,_,rfl,h1,h2⟩,⟨_,_,rfl,h3,h4⟩⟩
theorem Ac'.pair {w:World} {A1 c1 A2 c2 A3 c3 A4 c4} {a b:Rat} {n1 n2 n3 n4:Nat} {s1 s2:Bool} (h1:Ac' w (.agg #[.bool s1,.slice A1 n1 c1,.slice A2 n2 c2]) a) (h2:Ac' w (.agg #[.bool s2,.slice A3 n3 c3,.slice A4 n4 c4]) b) :
   Ao' w (.agg #[.bool s1,.slice A1 n1 c1,.slice A2 n2 c2,.bool s2,.slice A3 n3 c3,.slice A4 n4 c4]) a b:=by
 obtain ⟨u1,u2,e1,h3,h4⟩:=h1
 obtain ⟨u3,u4,e2,h5,h6⟩:=h2
 simp only [Value.agg.injEq,Array.mk.injEq,List.cons.injEq,Value.bool.injEq,and_true] at e1 e2
 obtain ⟨rfl,rfl,rfl⟩:=e1
 obtain ⟨rfl,rfl,rfl⟩:=e2
 exact ⟨_,_,_,_,rfl,h3,h4,h5,h6⟩
def Bk' (w:World) (a b:Rat) (e:Ending) (w':World):Prop:=∃ v,e=.returned v∧Ao' w' v a b∧Below w.heap.size w w'
theorem Ck {w:World} {v:Value} {a b:Rat} (hv:Ao' w v a b) (hs:Aa' a≤1099511627776) :
   Calls Tryz.prog 21 #[v] w (Ar' w a):=by
 obtain ⟨A1,c1,A2,c2,A3,c3,A4,c4,rfl,hx,hy⟩:=hv.opened
 obtain ⟨wB,hwB⟩:=eX ((w.alloc (.cells #[.bool (decide (a.num<0)),.slice A1 (len a.num.natAbs) c1,.slice A2 (len (below a.den)) c2,.bool (decide (b.num<0)),.slice A3 (len b.num.natAbs) c3,.slice A4 (len (below b.den)) c4] 35)).alloc (.cells #[.bool false,.slice none 0 0,.slice none 0 0] 33))
 obtain ⟨b0,gA,gB⟩:=AA' hwB
 obtain ⟨k0,k1,k2,k3,k4,k5⟩:=Ae' gA
 have HK0:=hid (Ai'.start (T:=33) rfl (Au _ _ _ _ _ _ _) gB)
 have HB0:=hid b0
 have hlt1:w.heap.size<w.heap.size+1:=by omega
 clear gA gB b0
 have HX:=hid (AJ (hx.keep HB0.out) hs)
 clear hs hx hy hv
 go_enter Tryz.func21,Tryz.ntmps21
 go_upto_region 1 with fail
 rw [←hwB]
 clear hwB
 go_wp2_with fail
 refine (HX.out).mono ?_
 rintro e w5 ⟨v5,rfl,hv5,b5⟩
 obtain ⟨C1,j1,C2,j2,rfl,-,-⟩:=hv5.opened
 have hk:=(HK0.out.call b5).held (Aj.refl _)
 clear b5 HX
 obtain ⟨-,c0,c1',c2',f0,f1,f2,-⟩:=id hk
 have HD:=hk.done (q:=a) (b:=decide (a.num<0)) (A1:=C1) (n1:=len a.num.natAbs) (c1:=j1) (A2:=C2) (n2:=len (below a.den)) (c2:=j2) (hv5)
 obtain ⟨d1,d2,d3⟩:=HD
 obtain ⟨r0,r1,r2⟩:=Ab' d3
 have HD:=hid (And.intro d1 d2)
 clear d1 d2 d3
 go_wp2_with fail
 refine bP (v:=.agg #[.bool (decide (a.num<0)),.slice (C1) (len a.num.natAbs) (j1),.slice (C2) (len (below a.den)) (j2)]) ?_ rfl ⟨_,rfl,HD.out.1,Ae HB0.out (by omega) HD.out.2⟩
 simp [results,Tryz.results21,go_sem,r0,r1,r2]
theorem Ck' {w:World} {v:Value} {a b:Rat} (hv:Ao' w v a b) (hs:Aa' b≤1099511627776) :
   Calls Tryz.prog 22 #[v] w (Ar' w b):=by
 obtain ⟨A1,c1,A2,c2,A3,c3,A4,c4,rfl,hx,hy⟩:=hv.opened
 obtain ⟨wB,hwB⟩:=eX ((w.alloc (.cells #[.bool (decide (a.num<0)),.slice A1 (len a.num.natAbs) c1,.slice A2 (len (below a.den)) c2,.bool (decide (b.num<0)),.slice A3 (len b.num.natAbs) c3,.slice A4 (len (below b.den)) c4] 35)).alloc (.cells #[.bool false,.slice none 0 0,.slice none 0 0] 33))
 obtain ⟨b0,gA,gB⟩:=AA' hwB
 obtain ⟨k0,k1,k2,k3,k4,k5⟩:=Ae' gA
 have HK0:=hid (Ai'.start (T:=33) rfl (Au _ _ _ _ _ _ _) gB)
 have HB0:=hid b0
 have hlt1:w.heap.size<w.heap.size+1:=by omega
 clear gA gB b0
 have HX:=hid (AJ (hy.keep HB0.out) hs)
 clear hs hx hy hv
 go_enter Tryz.func22,Tryz.ntmps22
 go_upto_region 1 with fail
 rw [←hwB]
 clear hwB
 go_wp2_with fail
 refine (HX.out).mono ?_
 rintro e w5 ⟨v5,rfl,hv5,b5⟩
 obtain ⟨C1,j1,C2,j2,rfl,-,-⟩:=hv5.opened
 have hk:=(HK0.out.call b5).held (Aj.refl _)
 clear b5 HX
 obtain ⟨-,c0,c1',c2',f0,f1,f2,-⟩:=id hk
 have HD:=hk.done (q:=b) (b:=decide (b.num<0)) (A1:=C1) (n1:=len b.num.natAbs) (c1:=j1) (A2:=C2) (n2:=len (below b.den)) (c2:=j2) (hv5)
 obtain ⟨d1,d2,d3⟩:=HD
 obtain ⟨r0,r1,r2⟩:=Ab' d3
 have HD:=hid (And.intro d1 d2)
 clear d1 d2 d3
 go_wp2_with fail
 refine bP (v:=.agg #[.bool (decide (b.num<0)),.slice (C1) (len b.num.natAbs) (j1),.slice (C2) (len (below b.den)) (j2)]) ?_ rfl ⟨_,rfl,HD.out.1,Ae HB0.out (by omega) HD.out.2⟩
 simp [results,Tryz.results22,go_sem,r0,r1,r2]
def Am' (wB:World) (G:Nat) (wS w:World):Prop :=
  (∀ b o,b<G→w.cell? ⟨b,o,none⟩=wB.cell? ⟨b,o,none⟩)∧w.cell? ⟨G,0,none⟩=some (cur w ⟨G,0,none⟩)∧w.cell? ⟨G,1,none⟩=some (cur w ⟨G,1,none⟩)∧w.cell? ⟨G,2,none⟩=some (cur w ⟨G,2,none⟩)∧w.cell? ⟨G,3,none⟩=some (cur w ⟨G,3,none⟩)∧w.cell? ⟨G,4,none⟩=some (cur w ⟨G,4,none⟩)∧w.cell? ⟨G,5,none⟩=some (cur w ⟨G,5,none⟩)∧w.frozen? ⟨G,0,none⟩=false∧w.frozen? ⟨G,1,none⟩=false∧w.frozen? ⟨G,2,none⟩=false∧w.frozen? ⟨G,3,none⟩=false∧w.frozen? ⟨G,4,none⟩=false∧w.frozen? ⟨G,5,none⟩=false∧Ai' 6 35 wB (G) w∧Aj wS w
theorem Ai'.held6 {wB wS w:World} {G:Nat} (h:Ai' 6 35 wB G w) (hS:Aj wS w):Am' wB G wS w:=by
 obtain ⟨hb,cs,hs,hp,hg⟩:=id h
 exact ⟨Ao hb,B4' hg (by omega),B4' hg (by omega),B4' hg (by omega),B4' hg (by omega),B4' hg (by omega),B4' hg (by omega),fR w G 0 _ _ hg,fR w G 1 _ _ hg,fR w G 2 _ _ hg,fR w G 3 _ _ hg,fR w G 4 _ _ hg,fR w G 5 _ _ hg,h,hS⟩
theorem Am'.kept {wB wS w:World} {G:Nat} (h:Am' wB G wS w):Ai' 6 35 wB G w:=by
 obtain ⟨-,-,-,-,-,-,-,-,-,-,-,-,-,h,-⟩:=h
 exact h
theorem Am'.stay {wB wS w:World} {G:Nat} (h:Am' wB G wS w):Aj wS w:=by
 obtain ⟨-,-,-,-,-,-,-,-,-,-,-,-,-,-,h⟩:=h
 exact h
theorem Am'.call {wB wS w w':World} {G:Nat} (h:Am' wB G wS w) (hb:Below w.heap.size w w'):Am' wB G wS w':=(h.kept.call hb).held6 (h.stay.call hb)
theorem Ai'.begin6 {wB w:World} {G:Nat} (h:Ai' 6 35 wB G w):Am' wB G w w.drew:=h.drew.held6 (fun _ _ hv=>hv.keep ⟨rfl,rfl,rfl,nL _,fun _ _=>rfl⟩)
theorem BQ' {s1 s2:Bool} {A1 A2 A3 A4:Option Addr} {n1 c1 n2 c2 n3 c3 n4 c4:Nat}:CU' #[.bool s1,.slice A1 n1 c1,.slice A2 n2 c2,.bool s2,.slice A3 n3 c3,.slice A4 n4 c4]:=by
 intro i k n
 match i with
 | 0=>exact fun h=>by cases h
 | 1=>exact fun h=>by cases h
 | 2=>exact fun h=>by cases h
 | 3=>exact fun h=>by cases h
 | 4=>exact fun h=>by cases h
 | 5=>exact fun h=>by cases h
 | _+6=>exact fun h=>by cases h
theorem Am'.store {wB wS w:World} {G:Nat} {s1 s2:Bool} {A1 A2 A3 A4:Option Addr} {n1 c1 n2 c2 n3 c3 n4 c4:Nat} (h:Am' wB G wS w) :
   Am' wB G wS ((((((w.setCell ⟨G,0,none⟩ (.bool s1)).setCell ⟨G,1,none⟩ (.slice A1 n1 c1)).setCell ⟨G,2,none⟩ (.slice A2 n2 c2)).setCell ⟨G,3,none⟩ (.bool s2)).setCell ⟨G,4,none⟩ (.slice A3 n3 c3)).setCell ⟨G,5,none⟩ (.slice A4 n4 c4)):=by
 have k0:=h.kept
 have k1:=k0.set (i:=0) (Bd s1)
 have k2:=k1.set (i:=1) (AD' A1 n1 c1)
 have k3:=k2.set (i:=2) (AD' A2 n2 c2)
 have k4:=k3.set (i:=3) (Bd s2)
 have k5:=k4.set (i:=4) (AD' A3 n3 c3)
 have k6:=k5.set (i:=5) (AD' A4 n4 c4)
 exact k6.held6 ((((((h.stay.put k0).put k1).put k2).put k3).put k4).put k5)
theorem six {l:List Value} (h:l.length=6):∃ x0 x1 x2 x3 x4 x5,l=[x0,x1,x2,x3,x4,x5]:=by
 rcases l with _ | ⟨x0,l⟩
 · simp only [List.length_nil] at h;omega
 rcases l with _ | ⟨x1,l⟩
 · simp only [List.length_nil,List.length_cons] at h;omega
 rcases l with _ | ⟨x2,l⟩
 · simp only [List.length_nil,List.length_cons] at h;omega
 rcases l with _ | ⟨x3,l⟩
 · simp only [List.length_nil,List.length_cons] at h;omega
 rcases l with _ | ⟨x4,l⟩
 · simp only [List.length_nil,List.length_cons] at h;omega
 rcases l with _ | ⟨x5,l⟩
 · simp only [List.length_nil,List.length_cons] at h;omega
 rcases l with _ | ⟨x6,l⟩
 · exact ⟨x0,x1,x2,x3,x4,x5,rfl⟩
 · simp only [List.length_cons] at h;omega
theorem EL' {w:World} {G:Nat} {T:TypeId} {cs:Array Value} (hs:cs.size=6) (hg:w.heap[G]?=some (.cells cs T (0,0))) (a b c d e f:Value) :
   ((((((w.setCell ⟨G,0,none⟩ a).setCell ⟨G,1,none⟩ b).setCell ⟨G,2,none⟩ c).setCell ⟨G,3,none⟩ d).setCell ⟨G,4,none⟩ e).setCell ⟨G,5,none⟩ f).heap[G]?=some (.cells #[a,b,c,d,e,f] T (0,0)):=by
 have g1:=heap_setCell_same w G 0 _ _ a hg
 have g2:=heap_setCell_same _ G 1 _ _ b g1
 have g3:=heap_setCell_same _ G 2 _ _ c g2
 have g4:=heap_setCell_same _ G 3 _ _ d g3
 have g5:=heap_setCell_same _ G 4 _ _ e g4
 have g6:=heap_setCell_same _ G 5 _ _ f g5
 rw [g6]
 obtain ⟨l⟩:=cs
 obtain ⟨x0,x1,x2,x3,x4,x5,rfl⟩:=six hs
 rfl
theorem Am'.done {wB wS w:World} {G:Nat} {s1 s2:Bool} {A1 A2 A3 A4:Option Addr} {n1 c1 n2 c2 n3 c3 n4 c4:Nat} {p q:Rat} (h:Am' wB G wS w) (hp:Ac' w (.agg #[.bool s1,.slice A1 n1 c1,.slice A2 n2 c2]) p) (hq:Ac' w (.agg #[.bool s2,.slice A3 n3 c3,.slice A4 n4 c4]) q) :
   Ao' ((((((w.setCell ⟨G,0,none⟩ (.bool s1)).setCell ⟨G,1,none⟩ (.slice A1 n1 c1)).setCell ⟨G,2,none⟩ (.slice A2 n2 c2)).setCell ⟨G,3,none⟩ (.bool s2)).setCell ⟨G,4,none⟩ (.slice A3 n3 c3)).setCell ⟨G,5,none⟩ (.slice A4 n4 c4)) (.agg #[.bool s1,.slice A1 n1 c1,.slice A2 n2 c2,.bool s2,.slice A3 n3 c3,.slice A4 n4 c4]) p q ∧
   Below G wB ((((((w.setCell ⟨G,0,none⟩ (.bool s1)).setCell ⟨G,1,none⟩ (.slice A1 n1 c1)).setCell ⟨G,2,none⟩ (.slice A2 n2 c2)).setCell ⟨G,3,none⟩ (.bool s2)).setCell ⟨G,4,none⟩ (.slice A3 n3 c3)).setCell ⟨G,5,none⟩ (.slice A4 n4 c4)) ∧
   ((((((w.setCell ⟨G,0,none⟩ (.bool s1)).setCell ⟨G,1,none⟩ (.slice A1 n1 c1)).setCell ⟨G,2,none⟩ (.slice A2 n2 c2)).setCell ⟨G,3,none⟩ (.bool s2)).setCell ⟨G,4,none⟩ (.slice A3 n3 c3)).setCell ⟨G,5,none⟩ (.slice A4 n4 c4)).heap[G]?=some (.cells #[.bool s1,.slice A1 n1 c1,.slice A2 n2 c2,.bool s2,.slice A3 n3 c3,.slice A4 n4 c4] 35 (0,0)):=by
 have k0:=h.kept
 have k1:=k0.set (i:=0) (Bd s1)
 have k2:=k1.set (i:=1) (AD' A1 n1 c1)
 have k3:=k2.set (i:=2) (AD' A2 n2 c2)
 have k4:=k3.set (i:=3) (Bd s2)
 have k5:=k4.set (i:=4) (AD' A3 n3 c3)
 have k6:=k5.set (i:=5) (AD' A4 n4 c4)
 refine ⟨Ac'.pair (((((((hp.put k0).put k1).put k2).put k3).put k4).put k5)) (((((((hq.put k0).put k1).put k2).put k3).put k4).put k5)),k6.1,?_⟩
 obtain ⟨_,cs,hs,_,hg⟩:=k0
 exact EL' hs hg _ _ _ _ _ _
theorem Ex' {w:World} {vx:Value} {x:Rat} (hx:Ac' w vx x) (hs:Aa' x≤1099511627776) :
   Calls Tryz.prog 18 #[vx] w (Bk' w x x):=by
 obtain ⟨A1,c1,A2,c2,rfl,hx1,hx2⟩:=hx.opened
 obtain ⟨wB,hwB⟩:=eX ((w.alloc (.cells #[.bool (decide (x.num<0)),.slice A1 (len x.num.natAbs) c1,.slice A2 (len (below x.den)) c2] 33)).alloc (.cells #[.bool false,.slice none 0 0,.slice none 0 0,.bool false,.slice none 0 0,.slice none 0 0] 35))
 obtain ⟨b0,gA,gB⟩:=AA' hwB
 obtain ⟨k0,k1,k2⟩:=Ab' gA
 have HK0:=hid (Ai'.start (T:=35) rfl BQ' gB)
 have HB0:=hid b0
 have hlt1:w.heap.size<w.heap.size+1:=by omega
 clear gA gB b0
 have hxB:=hx.keep HB0.out
 have H0:=HK0.out.begin6
 have H0':=H0
 unfold Am' at H0'
 have HX:=fun (w':World) (hk:Am' wB (w.heap.size+1) wB w')=>hid (AJ (hk.stay.num hxB) hs)
 clear hx hs hxB hx1 hx2
 go_enter Tryz.func18,Tryz.ntmps18
 go_upto_region 1 with fail
 rw [←hwB]
 clear hwB
 go_wp2_with fail
 go_region_held3 (fun w'=>(∀ b o,b<w.heap.size+1→w'.cell? ⟨b,o,none⟩=wB.cell? ⟨b,o,none⟩)∧w'.cell? ⟨w.heap.size+1,0,none⟩=some (cur w' ⟨w.heap.size+1,0,none⟩)∧w'.cell? ⟨w.heap.size+1,1,none⟩=some (cur w' ⟨w.heap.size+1,1,none⟩)∧w'.cell? ⟨w.heap.size+1,2,none⟩=some (cur w' ⟨w.heap.size+1,2,none⟩)∧w'.cell? ⟨w.heap.size+1,3,none⟩=some (cur w' ⟨w.heap.size+1,3,none⟩)∧w'.cell? ⟨w.heap.size+1,4,none⟩=some (cur w' ⟨w.heap.size+1,4,none⟩)∧w'.cell? ⟨w.heap.size+1,5,none⟩=some (cur w' ⟨w.heap.size+1,5,none⟩)∧w'.frozen? ⟨w.heap.size+1,0,none⟩=false∧w'.frozen? ⟨w.heap.size+1,1,none⟩=false∧w'.frozen? ⟨w.heap.size+1,2,none⟩=false∧w'.frozen? ⟨w.heap.size+1,3,none⟩=false∧w'.frozen? ⟨w.heap.size+1,4,none⟩=false∧w'.frozen? ⟨w.heap.size+1,5,none⟩=false∧Ai' 6 35 wB (w.heap.size+1) w'∧Aj wB w')
   (first | with_reducible exact H0' | with_reducible exact hk1' | with_reducible exact hk2' | exact hk2.store)
   (first | (go_at_call 61;refine ((HX _ hk1).out).mono ?_;rintro e w2 ⟨v2,rfl,hv2,hbl2⟩;obtain ⟨C3,j3,C4,j4,rfl,-,-⟩:=hv2.opened;have hk2:=hk1.call hbl2;have hk2':=hk2;unfold Am' at hk2') | (go_at_call 61;refine ((HX _ H0).out).mono ?_;rintro e w1 ⟨v1,rfl,hv1,hbl1⟩;obtain ⟨C1,j1,C2,j2,rfl,-,-⟩:=hv1.opened;have hk1:=H0.call hbl1;have hk1':=hk1;unfold Am' at hk1'))
 rename_i hHl
 clear hHl
 have hv1':=hv1.keep hbl2
 have HD:=hk2.done (p:=x) (q:=x) (s1:=decide (x.num<0)) (A1:=C1) (n1:=len x.num.natAbs) (c1:=j1) (A2:=C2) (n2:=len (below x.den)) (c2:=j2) (s2:=decide (x.num<0)) (A3:=C3) (n3:=len x.num.natAbs) (c3:=j3) (A4:=C4) (n4:=len (below x.den)) (c4:=j4) (hv1') (hv2)
 obtain ⟨d1,d2,d3⟩:=HD
 obtain ⟨r0,r1,r2,r3,r4,r5⟩:=Ae' d3
 have HD:=hid (And.intro d1 d2)
 clear d1 d2 d3
 go_wp2_with fail
 refine bP (v:=.agg #[.bool (decide (x.num<0)),.slice (C1) (len x.num.natAbs) (j1),.slice (C2) (len (below x.den)) (j2),.bool (decide (x.num<0)),.slice (C3) (len x.num.natAbs) (j3),.slice (C4) (len (below x.den)) (j4)]) ?_ rfl ⟨_,rfl,HD.out.1,Ae HB0.out (by omega) HD.out.2⟩
 simp [results,Tryz.results18,go_sem,r0,r1,r2,r3,r4,r5]
theorem If' (b:Bool) {n:Nat} (t:Nat) (h:n%2=0):sgn b t^n=((t^n:Nat):Int):=by
 cases b
 · simp [sgn]
 · show (-(t:Int))^n=_
   rw [Int.neg_pow,h,Int.pow_zero,Int.one_mul]
   simp
theorem IV (b:Bool) {n:Nat} (t:Nat) (h:n%2=1):sgn b t^n=sgn b (t^n):=by
 cases b
 · simp [sgn]
 · show (-(t:Int))^n = -((t^n:Nat):Int)
   rw [Int.neg_pow,h,Int.pow_one,Int.neg_mul,Int.one_mul]
   simp
theorem Dk' (x:Rat) (n:Nat):(x.num.natAbs^n).Coprime (x.den^n)∧0<x.den^n:=⟨Nat.Coprime.pow n n x.reduced,Nat.pow_pos x.den_pos⟩
theorem Eg' {x q:Rat} {n:Nat} {neg:Bool} (hq:q=x^n) (h:sgn neg (x.num.natAbs^n)=x.num^n):mkRat (sgn neg (x.num.natAbs^n)) (x.den^n)=q:=by
 rw [h,hq,←Rat.num_pow,←Rat.den_pow,Rat.mkRat_self]
theorem G6' {w:World} {vx:Value} {x q:Rat} {n:Nat} (hx:Ac' w vx x) (hq:q=x^n) (hn:n≤1099511627776) (hs:Aa' x*n≤1099511627776) (hs1:Aa' x≤1099511627776) (h:x.num<0) (hp:n%2=1) :
   Calls Tryz.prog 66 #[vx,.int .i64 (n:Nat)] w (Ar' w q):=by
 obtain ⟨A1,c1,A2,c2,rfl,hx1,hx2⟩:=hx.opened
 obtain ⟨wB,hwB⟩:=eX ((w.alloc (.cells #[.bool (decide (x.num<0)),.slice A1 (len x.num.natAbs) c1,.slice A2 (len (below x.den)) c2] 33)).alloc (.cells #[.bool false,.slice none 0 0,.slice none 0 0] 33))
 obtain ⟨b0,gA,gB⟩:=AA' hwB
 obtain ⟨k0,k1,k2⟩:=Ab' gA
 have HK0:=hid (Ai'.start (T:=33) rfl (Au _ _ _ _ _ _ _) gB)
 have HB0:=hid b0
 have hlt1:w.heap.size<w.heap.size+1:=by omega
 clear gA gB b0
 have hd:decide (x.num<0)=true:=dT_ h
 have ht:(Int.tmod ((n:Nat):Int) 2==1)=true:=by
   have e:Int.tmod ((n:Nat):Int) 2=((n%2:Nat):Int):=by rw [Int.tmod_eq_emod_of_nonneg (by omega)];omega
   rw [e,hp];rfl
 rw [hd] at k0 hwB hx ⊢
 have hd0:=hd
 clear hd
 have hl1:=Al' x
 have hl2:=Am x
 have HV:=hid (Eg' (neg:=true) hq (by rw [←IV _ _ hp,←hd0,Bj]))
 have HP:=hid (Dk' x n)
 have HX:=fun (w':World) (hk:Af' wB (w.heap.size+1) wB w')=>hid (BE' (n:=n) (hx1.keep (Ae HB0.out (by omega) hk.kept.1)) hn (nT (Nat.mul_le_mul_right n hl1) hs) (nT hl1 hs1))
 have HY:=fun (w':World) (hk:Af' wB (w.heap.size+1) wB w')=>hid (As (hx.keep (Ae HB0.out (by omega) hk.kept.1)))
 have HZ:=fun (w':World) (v:Value) (hv:Nt w' v x.den)=>hid (BE' (n:=n) hv hn (nT (Nat.mul_le_mul_right n hl2) hs) (nT hl2 hs1))
 have H0:=HK0.out.begin
 clear hd0 h hp hq hn hs hs1 hl1 hl2
 go_enter Tryz.func66,Tryz.ntmps66
 go_upto_region 2 with fail
 rw [←hwB]
 clear hwB
 go_wp2_with fail
 go_region_held3 (fun w'=>(∀ b o,b<w.heap.size+1→w'.cell? ⟨b,o,none⟩=wB.cell? ⟨b,o,none⟩)∧w'.cell? ⟨w.heap.size+1,0,none⟩=some (cur w' ⟨w.heap.size+1,0,none⟩)∧w'.cell? ⟨w.heap.size+1,1,none⟩=some (cur w' ⟨w.heap.size+1,1,none⟩)∧w'.cell? ⟨w.heap.size+1,2,none⟩=some (cur w' ⟨w.heap.size+1,2,none⟩)∧w'.frozen? ⟨w.heap.size+1,0,none⟩=false∧w'.frozen? ⟨w.heap.size+1,1,none⟩=false∧w'.frozen? ⟨w.heap.size+1,2,none⟩=false∧Ai' 3 33 wB (w.heap.size+1) w'∧Aj wB w')
   (first | exact H0 | exact hk4.store | exact hk4 | exact hk3 | exact hk2 | exact hk1)
   (first | (go_at_call_of 50 (Value.slice A1 (len x.num.natAbs) c1);refine ((HX _ ?_).out).mono ?_;assumption;rintro e w1 ⟨v1,rfl,hv1,hbl1⟩;have hk1:=Af'.call (by assumption) hbl1) | (go_at_call 51;refine ((HY _ ?_).out).mono ?_;assumption;rintro e w2 ⟨v2,rfl,hv2,hbl2⟩;have hk2:=Af'.call (by assumption) hbl2) | (go_at_call_of 50 v2;refine ((HZ _ _ hv2).out).mono ?_;rintro e w3 ⟨v3,rfl,hv3,hbl3⟩;have hk3:=Af'.call (by assumption) hbl3) | (go_at_call 80;refine (Bf ((hv1.keep hbl2).keep hbl3) hv3 HP.out.2 HP.out.1 HV.out).mono ?_;rintro e w4 ⟨v4,rfl,hv4,hbl4⟩;obtain ⟨C1,j1,C2,j2,rfl,-,-⟩:=hv4.opened;have hk4:=Af'.call (by assumption) hbl4))
 rename_i hHl
 clear hHl
 have HD:=hk4.done (q:=q) (b:=decide (q.num<0)) (A1:=C1) (n1:=len q.num.natAbs) (c1:=j1) (A2:=C2) (n2:=len (below q.den)) (c2:=j2) (hv4)
 obtain ⟨d1,d2,d3⟩:=HD
 obtain ⟨r0,r1,r2⟩:=Ab' d3
 have HD:=hid (And.intro d1 d2)
 clear d1 d2 d3
 go_wp2_with fail
 refine bP (v:=.agg #[.bool (decide (q.num<0)),.slice (C1) (len q.num.natAbs) (j1),.slice (C2) (len (below q.den)) (j2)]) ?_ rfl ⟨_,rfl,HD.out.1,Ae HB0.out (by omega) HD.out.2⟩
 simp [results,Tryz.results66,go_sem,r0,r1,r2]
theorem Gm' {w:World} {vx:Value} {x q:Rat} {n:Nat} (hx:Ac' w vx x) (hq:q=x^n) (hn:n≤1099511627776) (hs:Aa' x*n≤1099511627776) (hs1:Aa' x≤1099511627776) (h:x.num<0) (hp:n%2=0) :
   Calls Tryz.prog 66 #[vx,.int .i64 (n:Nat)] w (Ar' w q):=by
 obtain ⟨A1,c1,A2,c2,rfl,hx1,hx2⟩:=hx.opened
 obtain ⟨wB,hwB⟩:=eX ((w.alloc (.cells #[.bool (decide (x.num<0)),.slice A1 (len x.num.natAbs) c1,.slice A2 (len (below x.den)) c2] 33)).alloc (.cells #[.bool false,.slice none 0 0,.slice none 0 0] 33))
 obtain ⟨b0,gA,gB⟩:=AA' hwB
 obtain ⟨k0,k1,k2⟩:=Ab' gA
 have HK0:=hid (Ai'.start (T:=33) rfl (Au _ _ _ _ _ _ _) gB)
 have HB0:=hid b0
 have hlt1:w.heap.size<w.heap.size+1:=by omega
 clear gA gB b0
 have hd:decide (x.num<0)=true:=dT_ h
 have ht:(Int.tmod ((n:Nat):Int) 2==1)=false:=by
   have e:Int.tmod ((n:Nat):Int) 2=((n%2:Nat):Int):=by rw [Int.tmod_eq_emod_of_nonneg (by omega)];omega
   rw [e,hp];rfl
 rw [hd] at k0 hwB hx ⊢
 have hd0:=hd
 clear hd
 have hl1:=Al' x
 have hl2:=Am x
 have HV:=hid (Eg' (neg:=false) hq (by have:=If' true x.num.natAbs hp;rw [←hd0,Bj] at this;rw [this];rfl))
 have HP:=hid (Dk' x n)
 have HX:=fun (w':World) (hk:Af' wB (w.heap.size+1) wB w')=>hid (BE' (n:=n) (hx1.keep (Ae HB0.out (by omega) hk.kept.1)) hn (nT (Nat.mul_le_mul_right n hl1) hs) (nT hl1 hs1))
 have HY:=fun (w':World) (hk:Af' wB (w.heap.size+1) wB w')=>hid (As (hx.keep (Ae HB0.out (by omega) hk.kept.1)))
 have HZ:=fun (w':World) (v:Value) (hv:Nt w' v x.den)=>hid (BE' (n:=n) hv hn (nT (Nat.mul_le_mul_right n hl2) hs) (nT hl2 hs1))
 have H0:=HK0.out.begin
 clear hd0 h hp hq hn hs hs1 hl1 hl2
 go_enter Tryz.func66,Tryz.ntmps66
 go_upto_region 2 with fail
 rw [←hwB]
 clear hwB
 go_wp2_with fail
 go_region_held3 (fun w'=>(∀ b o,b<w.heap.size+1→w'.cell? ⟨b,o,none⟩=wB.cell? ⟨b,o,none⟩)∧w'.cell? ⟨w.heap.size+1,0,none⟩=some (cur w' ⟨w.heap.size+1,0,none⟩)∧w'.cell? ⟨w.heap.size+1,1,none⟩=some (cur w' ⟨w.heap.size+1,1,none⟩)∧w'.cell? ⟨w.heap.size+1,2,none⟩=some (cur w' ⟨w.heap.size+1,2,none⟩)∧w'.frozen? ⟨w.heap.size+1,0,none⟩=false∧w'.frozen? ⟨w.heap.size+1,1,none⟩=false∧w'.frozen? ⟨w.heap.size+1,2,none⟩=false∧Ai' 3 33 wB (w.heap.size+1) w'∧Aj wB w')
   (first | exact H0 | exact hk4.store | exact hk4 | exact hk3 | exact hk2 | exact hk1)
   (first | (go_at_call_of 50 (Value.slice A1 (len x.num.natAbs) c1);refine ((HX _ ?_).out).mono ?_;assumption;rintro e w1 ⟨v1,rfl,hv1,hbl1⟩;have hk1:=Af'.call (by assumption) hbl1) | (go_at_call 51;refine ((HY _ ?_).out).mono ?_;assumption;rintro e w2 ⟨v2,rfl,hv2,hbl2⟩;have hk2:=Af'.call (by assumption) hbl2) | (go_at_call_of 50 v2;refine ((HZ _ _ hv2).out).mono ?_;rintro e w3 ⟨v3,rfl,hv3,hbl3⟩;have hk3:=Af'.call (by assumption) hbl3) | (go_at_call 80;refine (Bf ((hv1.keep hbl2).keep hbl3) hv3 HP.out.2 HP.out.1 HV.out).mono ?_;rintro e w4 ⟨v4,rfl,hv4,hbl4⟩;obtain ⟨C1,j1,C2,j2,rfl,-,-⟩:=hv4.opened;have hk4:=Af'.call (by assumption) hbl4))
 rename_i hHl
 clear hHl
 have HD:=hk4.done (q:=q) (b:=decide (q.num<0)) (A1:=C1) (n1:=len q.num.natAbs) (c1:=j1) (A2:=C2) (n2:=len (below q.den)) (c2:=j2) (hv4)
 obtain ⟨d1,d2,d3⟩:=HD
 obtain ⟨r0,r1,r2⟩:=Ab' d3
 have HD:=hid (And.intro d1 d2)
 clear d1 d2 d3
 go_wp2_with fail
 refine bP (v:=.agg #[.bool (decide (q.num<0)),.slice (C1) (len q.num.natAbs) (j1),.slice (C2) (len (below q.den)) (j2)]) ?_ rfl ⟨_,rfl,HD.out.1,Ae HB0.out (by omega) HD.out.2⟩
 simp [results,Tryz.results66,go_sem,r0,r1,r2]
set_option linter.unusedSimpArgs false in
theorem G7 {w:World} {vx:Value} {x q:Rat} {n:Nat} (hx:Ac' w vx x) (hq:q=x^n) (hn:n≤1099511627776) (hs:Aa' x*n≤1099511627776) (hs1:Aa' x≤1099511627776) (h:¬ x.num<0) :
    Calls Tryz.prog 66 #[vx,.int .i64 (n:Nat)] w (Ar' w q):=by
  obtain ⟨A1,c1,A2,c2,rfl,hx1,hx2⟩:=hx.opened
  obtain ⟨wB,hwB⟩:=eX ((w.alloc (.cells #[.bool (decide (x.num<0)),.slice A1 (len x.num.natAbs) c1,.slice A2 (len (below x.den)) c2] 33)).alloc (.cells #[.bool false,.slice none 0 0,.slice none 0 0] 33))
  obtain ⟨b0,gA,gB⟩:=AA' hwB
  obtain ⟨k0,k1,k2⟩:=Ab' gA
  have HK0:=hid (Ai'.start (T:=33) rfl (Au _ _ _ _ _ _ _) gB)
  have HB0:=hid b0
  have hlt1:w.heap.size<w.heap.size+1:=by omega
  clear gA gB b0
  have hd:decide (x.num<0)=false:=dF_ h
  rw [hd] at k0 hwB hx ⊢
  clear hd
  have hl1:=Al' x
  have hl2:=Am x
  have HV:=hid (Eg' (neg:=false) hq (by show ((x.num.natAbs^n:Nat):Int)=_;rw [Int.natCast_pow,Int.natAbs_of_nonneg (by omega)]))
  have HP:=hid (Dk' x n)
  have HX:=fun (w':World) (hk:Af' wB (w.heap.size+1) wB w')=>hid (BE' (n:=n) (hx1.keep (Ae HB0.out (by omega) hk.kept.1)) hn (nT (Nat.mul_le_mul_right n hl1) hs) (nT hl1 hs1))
  have HY:=fun (w':World) (hk:Af' wB (w.heap.size+1) wB w')=>hid (As (hx.keep (Ae HB0.out (by omega) hk.kept.1)))
  have HZ:=fun (w':World) (v:Value) (hv:Nt w' v x.den)=>hid (BE' (n:=n) hv hn (nT (Nat.mul_le_mul_right n hl2) hs) (nT hl2 hs1))
  have H0:=HK0.out.begin
  clear h hq hn hs hs1 hl1 hl2
  go_enter Tryz.func66,Tryz.ntmps66
  go_upto_region 2 with fail
  rw [←hwB]
  clear hwB
  go_wp2_with fail
  refine wp_region_held_drew (S:=(fun w'=>(∀ b o,b<w.heap.size+1→w'.cell? ⟨b,o,none⟩=wB.cell? ⟨b,o,none⟩)∧w'.cell? ⟨w.heap.size+1,0,none⟩=some (cur w' ⟨w.heap.size+1,0,none⟩)∧w'.cell? ⟨w.heap.size+1,1,none⟩=some (cur w' ⟨w.heap.size+1,1,none⟩)∧w'.cell? ⟨w.heap.size+1,2,none⟩=some (cur w' ⟨w.heap.size+1,2,none⟩)∧w'.frozen? ⟨w.heap.size+1,0,none⟩=false∧w'.frozen? ⟨w.heap.size+1,1,none⟩=false∧w'.frozen? ⟨w.heap.size+1,2,none⟩=false∧Ai' 3 33 wB (w.heap.size+1) w'∧Aj wB w')) (by kernel_rfl) ?_ (fun hHeld=>?_)
  · (try dsimp only)
    exact H0
  refine wpAnyH_take (i:=0) (v:=?v0) rfl (by kernel_rfl) (by kernel_rfl) (by kernel_rfl) (fun _ _ _ h=>h) (Or.inl ⟨by rfl,?h0⟩) (by assumption) ?r0
  case h0 =>
    intro w hSw
    (try dsimp only at hSw)
    go_simp
    try with_reducible rfl
  try simp only [Act.put,List.setIfInBounds_toArray,List.set_cons_zero,List.set_cons_succ]
  refine wpAnyH_take (i:=1) (v:=?v1) rfl (by kernel_rfl) (by kernel_rfl) (by kernel_rfl) (fun _ _ _ h=>h) (Or.inl ⟨by rfl,?h1⟩) (by assumption) ?r1
  case h1 =>
    intro w hSw
    (try dsimp only at hSw)
    go_simp
    try with_reducible rfl
  try simp only [Act.put,List.setIfInBounds_toArray,List.set_cons_zero,List.set_cons_succ]
  refine wpAnyH_take (i:=2) (v:=?v2) rfl (by kernel_rfl) (by kernel_rfl) (by kernel_rfl) (fun _ _ _ h=>h) (Or.inl ⟨by rfl,?h2⟩) (by assumption) ?r2
  case h2 =>
    intro w hSw
    (try dsimp only at hSw)
    go_simp
    try with_reducible rfl
  try simp only [Act.put,List.setIfInBounds_toArray,List.set_cons_zero,List.set_cons_succ]
  refine wpAnyH_take (i:=3) rfl (by kernel_rfl) (by kernel_rfl) (by kernel_rfl) (fun _ _ _ h=>h) (Or.inr ⟨by rfl,rfl⟩) (by assumption) ?_
  try simp only [Act.put,List.setIfInBounds_toArray,List.set_cons_zero,List.set_cons_succ]
  refine wpAnyH_take (i:=4) rfl (by kernel_rfl) (by kernel_rfl) (by kernel_rfl) (fun _ _ _ h=>h) (Or.inr ⟨by rfl,rfl⟩) (by assumption) ?_
  try simp only [Act.put,List.setIfInBounds_toArray,List.set_cons_zero,List.set_cons_succ]
  refine wpAnyH_take (i:=5) rfl (by kernel_rfl) (by kernel_rfl) (by kernel_rfl) (fun _ _ _ h=>h) (Or.inr ⟨by rfl,rfl⟩) (by assumption) ?_
  try simp only [Act.put,List.setIfInBounds_toArray,List.set_cons_zero,List.set_cons_succ]
  refine wpAnyH_take (i:=6) (v:=?v6) rfl (by kernel_rfl) (by kernel_rfl) (by kernel_rfl) (fun _ _ _ h=>h) (Or.inl ⟨by rfl,?h6⟩) (by assumption) ?r6
  case h6 =>
    intro w hSw
    (try dsimp only at hSw)
    go_simp
    try with_reducible rfl
  try simp only [Act.put,List.setIfInBounds_toArray,List.set_cons_zero,List.set_cons_succ]
  refine wpAnyH_take (i:=7) (v:=?v7) rfl (by kernel_rfl) (by kernel_rfl) (by kernel_rfl) (fun _ _ _ h=>h) (Or.inl ⟨by rfl,?h7⟩) (by assumption) ?r7
  case h7 =>
    intro w hSw
    (try dsimp only at hSw)
    go_simp
    try with_reducible rfl
  try simp only [Act.put,List.setIfInBounds_toArray,List.set_cons_zero,List.set_cons_succ]
  refine wpAnyH_take (i:=8) (v:=?v8) rfl (by kernel_rfl) (by kernel_rfl) (by kernel_rfl) (fun _ _ _ h=>h) (Or.inl ⟨by rfl,?h8⟩) (by assumption) ?r8
  case h8 =>
    intro w hSw
    (try dsimp only at hSw)
    go_simp
    try with_reducible rfl
  try simp only [Act.put,List.setIfInBounds_toArray,List.set_cons_zero,List.set_cons_succ]
  refine wpAnyH_take (i:=9) (v:=?v9) rfl (by kernel_rfl) (by kernel_rfl) (by kernel_rfl) (fun _ _ _ h=>h) (Or.inl ⟨by rfl,?h9⟩) (by assumption) ?r9
  case h9 =>
    intro w hSw
    (try dsimp only at hSw)
    go_simp
    try with_reducible rfl
  try simp only [Act.put,List.setIfInBounds_toArray,List.set_cons_zero,List.set_cons_succ]
  refine wpAnyH_take (i:=11) (v:=?v11) rfl (by kernel_rfl) (by kernel_rfl) (by kernel_rfl) (fun _ _ _ h=>h) (Or.inl ⟨by rfl,?h11⟩) (by assumption) ?r11
  case h11 =>
    intro w hSw
    (try dsimp only at hSw)
    go_simp
    try with_reducible rfl
  try simp only [Act.put,List.setIfInBounds_toArray,List.set_cons_zero,List.set_cons_succ]
  refine wpAnyH_take (i:=13) (v:=?v13) rfl (by kernel_rfl) (by kernel_rfl) (by kernel_rfl) (fun _ _ _ h=>h) (Or.inl ⟨by rfl,?h13⟩) (by assumption) ?r13
  case h13 =>
    intro w hSw
    (try dsimp only at hSw)
    go_simp
    try with_reducible rfl
  try simp only [Act.put,List.setIfInBounds_toArray,List.set_cons_zero,List.set_cons_succ]
  refine wpAnyH_ready (rs:=[10]) (by kernel_rfl) (by simp) ?_
  refine AllReadyH.cons rfl (fun K hK=>?_) AllReadyH.nil
  go_simp
  go_at_call_of 50 (Value.slice A1 (len x.num.natAbs) c1)
  refine ((HX _ ?_).out).mono ?_
  · assumption
  rintro e w1 ⟨v1,rfl,hv1,hbl1⟩
  have hk1:=Af'.call (by assumption) hbl1
  refine hK.out _ _ ?_ (fun hHeld=>?_)
  · (try dsimp only)
    exact hk1
  clear hK K
  try simp only [Act.put,List.setIfInBounds_toArray,List.set_cons_zero,List.set_cons_succ]
  refine wpAnyH_ready (rs:=[12]) (by kernel_rfl) (by simp) ?_
  refine AllReadyH.cons rfl (fun K hK=>?_) AllReadyH.nil
  go_simp
  go_at_call 51
  refine ((HY _ ?_).out).mono ?_
  · assumption
  rintro e w2 ⟨v2,rfl,hv2,hbl2⟩
  have hk2:=Af'.call (by assumption) hbl2
  refine hK.out _ _ ?_ (fun hHeld=>?_)
  · (try dsimp only)
    exact hk2
  clear hK K
  try simp only [Act.put,List.setIfInBounds_toArray,List.set_cons_zero,List.set_cons_succ]
  refine wpAnyH_ready (rs:=[14]) (by kernel_rfl) (by simp) ?_
  refine AllReadyH.cons rfl (fun K hK=>?_) AllReadyH.nil
  go_simp
  go_at_call_of 50 v2
  refine ((HZ _ _ hv2).out).mono ?_
  rintro e w3 ⟨v3,rfl,hv3,hbl3⟩
  have hk3:=Af'.call (by assumption) hbl3
  refine hK.out _ _ ?_ (fun hHeld=>?_)
  · (try dsimp only)
    exact hk3
  clear hK K
  try simp only [Act.put,List.setIfInBounds_toArray,List.set_cons_zero,List.set_cons_succ]
  refine wpAnyH_ready (rs:=[15]) (by kernel_rfl) (by simp) ?_
  refine AllReadyH.cons rfl (fun K hK=>?_) AllReadyH.nil
  go_simp
  go_at_call 80
  refine (Bf ((hv1.keep hbl2).keep hbl3) hv3 HP.out.2 HP.out.1 HV.out).mono ?_
  rintro e w4 ⟨v4,rfl,hv4,hbl4⟩
  obtain ⟨C1,j1,C2,j2,rfl,-,-⟩:=hv4.opened
  have hk4:=Af'.call (by assumption) hbl4
  refine hK.out _ _ ?_ (fun hHeld=>?_)
  · (try dsimp only)
    exact hk4
  clear hK K
  try simp only [Act.put,List.setIfInBounds_toArray,List.set_cons_zero,List.set_cons_succ]
  refine wpAnyH_ready (rs:=[16]) (by kernel_rfl) (by simp) ?_
  refine AllReadyH.cons rfl (fun K hK=>?_) AllReadyH.nil
  go_simp
  refine hK.out _ _ ?_ (fun hHeld=>?_)
  · (try dsimp only)
    exact hk4.store
  clear hK K
  try simp only [Act.put,List.setIfInBounds_toArray,List.set_cons_zero,List.set_cons_succ]
  refine wpAnyH_done (by kernel_rfl) ?_ _
  have HD:=hk4.done (q:=q) (b:=decide (q.num<0)) (A1:=C1) (n1:=len q.num.natAbs) (c1:=j1) (A2:=C2) (n2:=len (below q.den)) (c2:=j2) (hv4)
  obtain ⟨d1,d2,d3⟩:=HD
  obtain ⟨r0,r1,r2⟩:=Ab' d3
  have HD:=hid (And.intro d1 d2)
  clear d1 d2 d3
  go_wp2_with fail
  refine bP (v:=.agg #[.bool (decide (q.num<0)),.slice (C1) (len q.num.natAbs) (j1),.slice (C2) (len (below q.den)) (j2)]) ?_ rfl ⟨_,rfl,HD.out.1,Ae HB0.out (by omega) HD.out.2⟩
  simp [results,Tryz.results66,go_sem,r0,r1,r2]
theorem E9' {w:World} {vx:Value} {x:Rat} {n:Nat} (hx:Ac' w vx x) (hn:n≤1099511627776) (hs:Aa' x*n≤1099511627776) (hs1:Aa' x≤1099511627776) :
   Calls Tryz.prog 66 #[vx,.int .i64 (n:Nat)] w (Ar' w (x^n)):=by
 rcases Decidable.em (x.num<0) with h | h
 · rcases Nat.mod_two_eq_zero_or_one n with hp | hp
   · exact Gm' hx rfl hn hs hs1 h hp
   · exact G6' hx rfl hn hs hs1 h hp
 · exact G7 hx rfl hn hs hs1 h
def Ba (w:World) (a b:Rat) (c:Int) (e:Ending) (w':World):Prop:=∃ v,e=.returned (.tuple #[v,.int .i64 c])∧Ao' w' v a b∧Below w.heap.size w w'
theorem FT {x y:Rat} (h:x≤y):¬ 0<cmpQ x y:=by
 unfold cmpQ
 split
 · omega
 · split
   · omega
   · rename_i h1 h2
     exact absurd (Rat.le_antisymm h (Rat.not_lt.1 h1)) h2
theorem IV' {x y:Rat} (h:¬ x≤y):0<cmpQ x y:=by
 unfold cmpQ
 rw [if_neg (fun e=>h (Rat.le_of_lt e)),if_neg (fun e=>h (by rw [e];exact Rat.le_refl))]
 omega
theorem DM' {w:World} {vx vy:Value} {x y:Rat} (hx:Ac' w vx x) (hy:Ac' w vy y) (hs:Aa' x≤34359738368) (ht:Aa' y≤34359738368) (h:x≤y) :
   Calls Tryz.prog 15 #[vx,vy] w (Ba w x y 0):=by
 obtain ⟨A1,c1,A2,c2,rfl,-,-⟩:=id hx.opened
 obtain ⟨A3,c3,A4,c4,rfl,-,-⟩:=id hy.opened
 obtain ⟨wB,hwB⟩:=eX (((w.alloc (.cells #[.bool (decide (x.num<0)),.slice A1 (len x.num.natAbs) c1,.slice A2 (len (below x.den)) c2] 33)).alloc (.cells #[.bool (decide (y.num<0)),.slice A3 (len y.num.natAbs) c3,.slice A4 (len (below y.den)) c4] 33)).alloc (.cells #[.bool false,.slice none 0 0,.slice none 0 0,.bool false,.slice none 0 0,.slice none 0 0] 35))
 obtain ⟨b0,g0,g1,g2⟩:=AK' hwB
 obtain ⟨k0,k1,k2⟩:=Ab' g0
 obtain ⟨k3,k4,k5⟩:=Ab' g1
 have HK0:=hid (Ai'.start (T:=35) rfl BQ' g2)
 have HB0:=hid b0
 have hlt1:w.heap.size<w.heap.size+2:=by omega
 have hlt2:w.heap.size+1<w.heap.size+2:=by omega
 clear g0 g1 g2 b0
 have HC:=hid (BB' (hx.keep HB0.out) (hy.keep HB0.out) hs ht)
 obtain ⟨cc,hcc⟩:=eX (cmpQ x y:Int)
 have hle:decide (cc>0)=false:=dF_ (by rw [hcc];exact FT h)
 rw [←hcc] at HC
 clear hcc h
 have HX:=fun (w1 w':World) (hb:Below w.heap.size w w1) (hk:Am' wB (w.heap.size+2) w1 w')=>hid (AJ (hk.stay.num (hx.keep hb)) (nT hs (by omega)))
 have HY:=fun (w1 w':World) (hb:Below w.heap.size w w1) (hk:Am' wB (w.heap.size+2) w1 w')=>hid (AJ (hk.stay.num (hy.keep hb)) (nT ht (by omega)))
 clear hx hy hs ht
 go_enter Tryz.func15,Tryz.ntmps15
 go_wp2_with fail
 rw [←hwB]
 clear hwB
 refine (HC.out).mono ?_
 rintro e w0 ⟨rfl,b1⟩
 have HK1:=hid (HK0.out.call b1)
 have HX:=fun (w':World) (hk:Am' wB (w.heap.size+2) w0 w')=>HX w0 w' (Ae HB0.out (by omega) HK1.out.1) hk
 have HY:=fun (w':World) (hk:Am' wB (w.heap.size+2) w0 w')=>HY w0 w' (Ae HB0.out (by omega) HK1.out.1) hk
 have H0:=HK1.out.begin6
 have H0':=H0
 unfold Am' at H0'
 go_wp2_with fail
 go_region_held3 (fun w'=>(∀ b o,b<w.heap.size+2→w'.cell? ⟨b,o,none⟩=wB.cell? ⟨b,o,none⟩)∧w'.cell? ⟨w.heap.size+2,0,none⟩=some (cur w' ⟨w.heap.size+2,0,none⟩)∧w'.cell? ⟨w.heap.size+2,1,none⟩=some (cur w' ⟨w.heap.size+2,1,none⟩)∧w'.cell? ⟨w.heap.size+2,2,none⟩=some (cur w' ⟨w.heap.size+2,2,none⟩)∧w'.cell? ⟨w.heap.size+2,3,none⟩=some (cur w' ⟨w.heap.size+2,3,none⟩)∧w'.cell? ⟨w.heap.size+2,4,none⟩=some (cur w' ⟨w.heap.size+2,4,none⟩)∧w'.cell? ⟨w.heap.size+2,5,none⟩=some (cur w' ⟨w.heap.size+2,5,none⟩)∧w'.frozen? ⟨w.heap.size+2,0,none⟩=false∧w'.frozen? ⟨w.heap.size+2,1,none⟩=false∧w'.frozen? ⟨w.heap.size+2,2,none⟩=false∧w'.frozen? ⟨w.heap.size+2,3,none⟩=false∧w'.frozen? ⟨w.heap.size+2,4,none⟩=false∧w'.frozen? ⟨w.heap.size+2,5,none⟩=false∧Ai' 6 35 wB (w.heap.size+2) w'∧Aj w0 w')
   (first | with_reducible exact H0' | with_reducible exact hk1' | with_reducible exact hk2' | exact hk2.store)
   (first | (go_at_call 61;refine ((HY _ hk1).out).mono ?_;rintro e w2 ⟨v2,rfl,hv2,hbl2⟩;obtain ⟨C3,j3,C4,j4,rfl,-,-⟩:=id hv2.opened;have hk2:=hk1.call hbl2;have hk2':=hk2;unfold Am' at hk2') | (go_at_call 61;refine ((HX _ H0).out).mono ?_;rintro e w1 ⟨v1,rfl,hv1,hbl1⟩;obtain ⟨C1,j1,C2,j2,rfl,-,-⟩:=id hv1.opened;have hk1:=H0.call hbl1;have hk1':=hk1;unfold Am' at hk1'))
 rename_i hHl
 clear hHl
 have hv1':=hv1.keep hbl2
 have HD:=hk2.done (p:=x) (q:=y) (s1:=decide (x.num<0)) (A1:=C1) (n1:=len x.num.natAbs) (c1:=j1) (A2:=C2) (n2:=len (below x.den)) (c2:=j2) (s2:=decide (y.num<0)) (A3:=C3) (n3:=len y.num.natAbs) (c3:=j3) (A4:=C4) (n4:=len (below y.den)) (c4:=j4) (hv1') (hv2)
 obtain ⟨d1,d2,d3⟩:=HD
 obtain ⟨r0,r1,r2,r3,r4,r5⟩:=Ae' d3
 have HD:=hid (And.intro d1 d2)
 clear d1 d2 d3
 go_wp2_with fail
 refine bP (v:=.tuple #[.agg #[.bool (decide (x.num<0)),.slice (C1) (len x.num.natAbs) (j1),.slice (C2) (len (below x.den)) (j2),.bool (decide (y.num<0)),.slice (C3) (len y.num.natAbs) (j3),.slice (C4) (len (below y.den)) (j4)],.int .i64 0]) ?_ rfl ⟨_,rfl,HD.out.1,Ae HB0.out (by omega) HD.out.2⟩
 simp [results,Tryz.results15,go_sem,r0,r1,r2,r3,r4,r5]
end Go.Proofs.YtbigkkjnhcpgiaaGreatDoor
