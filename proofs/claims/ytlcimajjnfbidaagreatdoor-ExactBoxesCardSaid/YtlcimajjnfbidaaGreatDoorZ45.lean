/-
  Contracts of the functions that the law calls, for every input (BoxP Eg).
-/
import Derived.Test.YtlcimajjnfbidaaGreatDoorZ00
import Derived.Test.YtlcimajjnfbidaaGreatDoorZ41
import Derived.Test.YtlcimajjnfbidaaGreatDoorZ44
import Derived.Test.YtlcimajjnfbidaaGreatDoorZ40
import Derived.Test.YtlcimajjnfbidaaGreatDoorZ23
set_option linter.all false
set_option maxRecDepth 100000
set_option maxHeartbeats 40000000
namespace Go.Proofs.YtlcimajjnfbidaaGreatDoor
open Lib (hid)
open Go.RowKit
open Vx
def Cp (w:World) (a b:Rat) (c:Bool) (e:Ending) (w':World):Prop:=∃ v,e=.returned (.tuple #[v,.bool c])∧Am' w' v a b∧Below w.heap.size w w'
theorem BG'.keep {w w':World} {b o:Nat} {l:List Rat} (h:BG' w b o l) (hb:Below w.heap.size w w'):BG' w' b o l:=by
 intro i q hi
 obtain ⟨p,h1,h2,h3,h4⟩:=h i q hi
 exact ⟨p,(hb.cell (bL w _ h1)).trans h1,(hb.cell (bL w _ h2)).trans h2,(hb.cell (bL w _ h3)).trans h3,Af.keep h4 hb⟩
theorem CB' {w:World} {q:Rat} {s:Bool} {A1 A2:Option Addr} {n1 c1 n2 c2:Nat} (h:Af w (.agg #[.bool s,.slice A1 n1 c1,.slice A2 n2 c2]) q) :
   BG' (w.alloc (.cells #[.bool s,.slice A1 n1 c1,.slice A2 n2 c2] 31)) w.heap.size 0 [q]:=by
 have hb:Below w.heap.size w (w.alloc (.cells #[.bool s,.slice A1 n1 c1,.slice A2 n2 c2] 31)):=(Below.refl _ _).alloc (nL _) _
 have hg:(w.alloc (.cells #[.bool s,.slice A1 n1 c1,.slice A2 n2 c2] 31)).heap[w.heap.size]?=some (.cells #[.bool s,.slice A1 n1 c1,.slice A2 n2 c2] 31 (0,0)):=hA_ w _
 intro i r hi
 match i,hi with
 | 0,hi =>
   obtain rfl:=Option.some.inj hi
   exact ⟨⟨s,A1,n1,c1,A2,n2,c2⟩,cR _ _ 0 _ _ _ hg,cR _ _ 1 _ _ _ hg,cR _ _ 2 _ _ _ hg,Af.keep h hb⟩
 | _+1,hi=>exact absurd hi (by simp)
theorem DJ' {w:World} {vx:Value} {x q p r:Rat} {n:Nat} (h1:leastOf x [q]=p) (h2:greatestOf x [q]=r) (hx:Af w vx x) (hl:BG' w n 0 [q]) (hs:Aa' x≤536870912) (ht:Aa' q≤536870912) :
   Calls Tryz.prog 69 #[vx,.slice (some ⟨n,0,none⟩) 1 1] w (AJ' w p r):=by
 rw [←h1,←h2]
 exact CU (l:=[q]) hx hl (by simp) (nT hs (by omega)) (fun y hy=>by
   simp only [List.mem_cons,List.not_mem_nil,or_false] at hy
   rw [hy];exact nT ht (by omega))
theorem Fg (s t:Bool) (A B C D:Option Addr) (n c m d k e l f:Nat) (w:World):(Instr.field 48 (.agg #[.bool s,.slice A n c,.slice B m d,.bool t,.slice C k e,.slice D l f]) 1).run Tryz.prog w=.ok (.agg #[.bool t,.slice C k e,.slice D l f]) w:=by kernel_rfl
theorem H8 (s t:Bool) (A B C D:Option Addr) (n c m d k e l f:Nat) (w:World):(Instr.field 48 (.agg #[.bool s,.slice A n c,.slice B m d,.bool t,.slice C k e,.slice D l f]) 0).run Tryz.prog w=.ok (.agg #[.bool s,.slice A n c,.slice B m d]) w:=by kernel_rfl
theorem EC {w:World} {v u:Value} {a b c d:Rat} (hv:Am' w v a b) (hu:Am' w u c d) (sa:Aa' a≤536870912) (sb:Aa' b≤536870912) (sc:Aa' c≤536870912) (sd:Aa' d≤536870912) (h:b<c) :
   Calls Tryz.prog 29 #[v,u] w (Cp w 0 0 false):=by
 have za:=hid sa
 have zb:=hid sb
 have zc:=hid sc
 have zd:=hid sd
 obtain ⟨A1,c1,A2,c2,A3,c3,A4,c4,rfl,ha,hb⟩:=hv.opened
 obtain ⟨A5,c5,A6,c6,A7,c7,A8,c8,rfl,hc,hd⟩:=hu.opened
 obtain ⟨wB,hwB⟩:=eX (((w.alloc (.cells #[.bool (decide (a.num<0)),.slice A1 (len a.num.natAbs) c1,.slice A2 (len (below a.den)) c2,.bool (decide (b.num<0)),.slice A3 (len b.num.natAbs) c3,.slice A4 (len (below b.den)) c4] 48)).alloc (.cells #[.bool (decide (c.num<0)),.slice A5 (len c.num.natAbs) c5,.slice A6 (len (below c.den)) c6,.bool (decide (d.num<0)),.slice A7 (len d.num.natAbs) c7,.slice A8 (len (below d.den)) c8] 48)).alloc (.cells #[.bool false,.slice none 0 0,.slice none 0 0,.bool false,.slice none 0 0,.slice none 0 0] 48))
 obtain ⟨b0,g0,g1,g2⟩:=Au' hwB
 obtain ⟨k0,k1,k2,k3,k4,k5⟩:=Ad' g0
 obtain ⟨k6,k7,k8,k9,k10,k11⟩:=Ad' g1
 have HK0:=hid (Ah.start (T:=48) rfl AP' g2)
 have HB0:=hid b0
 have hlt1:w.heap.size<w.heap.size+2:=by omega
 have hlt2:w.heap.size+1<w.heap.size+2:=by omega
 clear g0 g1 g2 b0
 replace ha:=hid (ha.keep HB0.out)
 replace hb:=hid (hb.keep HB0.out)
 replace hc:=hid (hc.keep HB0.out)
 replace hd:=hid (hd.keep HB0.out)
 obtain ⟨x1,ex1⟩:=eY (cmpQ b c:Int)
 obtain ⟨x2,ex2⟩:=eY (cmpQ d a:Int)
 have d1:decide (x1<0)=true:=dT_ (by rw [←ex1];exact Bw.2 h)
 replace ex1:=hid ex1
 replace ex2:=hid ex2
 clear hv hu sa sb sc sd
 go_enter Tryz.func29,Tryz.ntmps29
 go_upto_region 1 with fail
 rw [←hwB]
 clear hwB
 have HX:=hid (CB ex1.out hb.out hc.out zb.out zc.out)
 go_wp2_with fail
 refine (HX.out).mono ?_
 rintro e w1 ⟨rfl,b1⟩
 have HK1:=hid (HK0.out.call b1)
 replace b1:=hid b1
 have hc1:=Aj HK1.out.1
 clear HX
 have hk:=HK1.out.held6 (Ag'.refl _)
 have hk':=hk
 unfold Af' at hk'
 obtain ⟨-,c0,c1',c2',c3',c4',c5',f0,f1,f2,f3,f4,f5,-⟩:=hk'
 have HD:=hk.done (p:=0) (q:=0) (s1:=false) (A1:=none) (n1:=0) (c1:=0) (A2:=none) (n2:=0) (c2:=0) (s2:=false) (A3:=none) (n3:=0) (c3:=0) (A4:=none) (n4:=0) (c4:=0) (Ay' _) (Ay' _)
 obtain ⟨d1,d2,d3⟩:=HD
 obtain ⟨r0,r1,r2,r3,r4,r5⟩:=Ad' d3
 have HD:=hid (And.intro d1 d2)
 clear d1 d2 d3
 go_wp2_with fail
 refine bP (v:=.tuple #[.agg #[.bool false,.slice none 0 0,.slice none 0 0,.bool false,.slice none 0 0,.slice none 0 0],.bool false]) ?_ rfl ⟨_,rfl,HD.out.1,Ae HB0.out (by omega) HD.out.2⟩
 simp [results,Tryz.results29,go_sem,r0,r1,r2,r3,r4,r5]
theorem EC' {w:World} {v u:Value} {a b c d:Rat} (hv:Am' w v a b) (hu:Am' w u c d) (sa:Aa' a≤536870912) (sb:Aa' b≤536870912) (sc:Aa' c≤536870912) (sd:Aa' d≤536870912) (h:¬ b<c) (h2:d<a) :
   Calls Tryz.prog 29 #[v,u] w (Cp w 0 0 false):=by
 have za:=hid sa
 have zb:=hid sb
 have zc:=hid sc
 have zd:=hid sd
 obtain ⟨A1,c1,A2,c2,A3,c3,A4,c4,rfl,ha,hb⟩:=hv.opened
 obtain ⟨A5,c5,A6,c6,A7,c7,A8,c8,rfl,hc,hd⟩:=hu.opened
 obtain ⟨wB,hwB⟩:=eX (((w.alloc (.cells #[.bool (decide (a.num<0)),.slice A1 (len a.num.natAbs) c1,.slice A2 (len (below a.den)) c2,.bool (decide (b.num<0)),.slice A3 (len b.num.natAbs) c3,.slice A4 (len (below b.den)) c4] 48)).alloc (.cells #[.bool (decide (c.num<0)),.slice A5 (len c.num.natAbs) c5,.slice A6 (len (below c.den)) c6,.bool (decide (d.num<0)),.slice A7 (len d.num.natAbs) c7,.slice A8 (len (below d.den)) c8] 48)).alloc (.cells #[.bool false,.slice none 0 0,.slice none 0 0,.bool false,.slice none 0 0,.slice none 0 0] 48))
 obtain ⟨b0,g0,g1,g2⟩:=Au' hwB
 obtain ⟨k0,k1,k2,k3,k4,k5⟩:=Ad' g0
 obtain ⟨k6,k7,k8,k9,k10,k11⟩:=Ad' g1
 have HK0:=hid (Ah.start (T:=48) rfl AP' g2)
 have HB0:=hid b0
 have hlt1:w.heap.size<w.heap.size+2:=by omega
 have hlt2:w.heap.size+1<w.heap.size+2:=by omega
 clear g0 g1 g2 b0
 replace ha:=hid (ha.keep HB0.out)
 replace hb:=hid (hb.keep HB0.out)
 replace hc:=hid (hc.keep HB0.out)
 replace hd:=hid (hd.keep HB0.out)
 obtain ⟨x1,ex1⟩:=eY (cmpQ b c:Int)
 obtain ⟨x2,ex2⟩:=eY (cmpQ d a:Int)
 have d1:decide (x1<0)=false:=dF_ (by rw [←ex1];exact fun k=>h (Bw.1 k))
 have d2:decide (x2<0)=true:=dT_ (by rw [←ex2];exact Bw.2 h2)
 replace ex1:=hid ex1
 replace ex2:=hid ex2
 clear hv hu sa sb sc sd
 go_enter Tryz.func29,Tryz.ntmps29
 go_upto_region 1 with fail
 rw [←hwB]
 clear hwB
 have HX:=hid (CB ex1.out hb.out hc.out zb.out zc.out)
 go_wp2_with fail
 refine (HX.out).mono ?_
 rintro e w1 ⟨rfl,b1⟩
 have HK1:=hid (HK0.out.call b1)
 replace b1:=hid b1
 have hc1:=Aj HK1.out.1
 clear HX
 have HX:=hid (CB ex2.out (hd.out.keep b1.out) (ha.out.keep b1.out) zd.out za.out)
 go_wp2_with fail
 refine (HX.out).mono ?_
 rintro e w2 ⟨rfl,b2⟩
 have HK2:=hid (HK1.out.call b2)
 replace b2:=hid b2
 have hc2:=Aj HK2.out.1
 clear HX
 have hk:=HK2.out.held6 (Ag'.refl _)
 have hk':=hk
 unfold Af' at hk'
 obtain ⟨-,c0,c1',c2',c3',c4',c5',f0,f1,f2,f3,f4,f5,-⟩:=hk'
 have HD:=hk.done (p:=0) (q:=0) (s1:=false) (A1:=none) (n1:=0) (c1:=0) (A2:=none) (n2:=0) (c2:=0) (s2:=false) (A3:=none) (n3:=0) (c3:=0) (A4:=none) (n4:=0) (c4:=0) (Ay' _) (Ay' _)
 obtain ⟨d1,d2,d3⟩:=HD
 obtain ⟨r0,r1,r2,r3,r4,r5⟩:=Ad' d3
 have HD:=hid (And.intro d1 d2)
 clear d1 d2 d3
 go_wp2_with fail
 refine bP (v:=.tuple #[.agg #[.bool false,.slice none 0 0,.slice none 0 0,.bool false,.slice none 0 0,.slice none 0 0],.bool false]) ?_ rfl ⟨_,rfl,HD.out.1,Ae HB0.out (by omega) HD.out.2⟩
 simp [results,Tryz.results29,go_sem,r0,r1,r2,r3,r4,r5]
theorem Fg' {w:World} {v u:Value} {a b c d:Rat} (hv:Am' w v a b) (hu:Am' w u c d) (sa:Aa' a≤536870912) (sb:Aa' b≤536870912) (sc:Aa' c≤536870912) (sd:Aa' d≤536870912) (h:¬ b<c) (h2:¬ d<a) :
   Calls Tryz.prog 29 #[v,u] w (Cp w (greatestOf a [c]) (leastOf b [d]) true):=by
 have za:=hid sa
 have zb:=hid sb
 have zc:=hid sc
 have zd:=hid sd
 obtain ⟨A1,c1,A2,c2,A3,c3,A4,c4,rfl,ha,hb⟩:=hv.opened
 obtain ⟨A5,c5,A6,c6,A7,c7,A8,c8,rfl,hc,hd⟩:=hu.opened
 obtain ⟨wB,hwB⟩:=eX (((w.alloc (.cells #[.bool (decide (a.num<0)),.slice A1 (len a.num.natAbs) c1,.slice A2 (len (below a.den)) c2,.bool (decide (b.num<0)),.slice A3 (len b.num.natAbs) c3,.slice A4 (len (below b.den)) c4] 48)).alloc (.cells #[.bool (decide (c.num<0)),.slice A5 (len c.num.natAbs) c5,.slice A6 (len (below c.den)) c6,.bool (decide (d.num<0)),.slice A7 (len d.num.natAbs) c7,.slice A8 (len (below d.den)) c8] 48)).alloc (.cells #[.bool false,.slice none 0 0,.slice none 0 0,.bool false,.slice none 0 0,.slice none 0 0] 48))
 obtain ⟨b0,g0,g1,g2⟩:=Au' hwB
 obtain ⟨k0,k1,k2,k3,k4,k5⟩:=Ad' g0
 obtain ⟨k6,k7,k8,k9,k10,k11⟩:=Ad' g1
 have HK0:=hid (Ah.start (T:=48) rfl AP' g2)
 have HB0:=hid b0
 have hlt1:w.heap.size<w.heap.size+2:=by omega
 have hlt2:w.heap.size+1<w.heap.size+2:=by omega
 clear g0 g1 g2 b0
 replace ha:=hid (ha.keep HB0.out)
 replace hb:=hid (hb.keep HB0.out)
 replace hc:=hid (hc.keep HB0.out)
 replace hd:=hid (hd.keep HB0.out)
 obtain ⟨x1,ex1⟩:=eY (cmpQ b c:Int)
 obtain ⟨x2,ex2⟩:=eY (cmpQ d a:Int)
 have d1:decide (x1<0)=false:=dF_ (by rw [←ex1];exact fun k=>h (Bw.1 k))
 have d2:decide (x2<0)=false:=dF_ (by rw [←ex2];exact fun k=>h2 (Bw.1 k))
 clear h h2
 obtain ⟨q,eq⟩:=eY (greatestOf a [c]:Rat)
 obtain ⟨r,er⟩:=eY (leastOf b [d]:Rat)
 rw [eq,er]
 obtain ⟨q',eq'⟩:=eY (leastOf a [c]:Rat)
 obtain ⟨r',er'⟩:=eY (greatestOf b [d]:Rat)
 replace eq:=hid eq
 replace er:=hid er
 replace eq':=hid eq'
 replace er':=hid er'
 replace ex1:=hid ex1
 replace ex2:=hid ex2
 clear hv hu sa sb sc sd
 go_enter Tryz.func29,Tryz.ntmps29
 go_upto_region 1 with fail
 rw [←hwB]
 clear hwB
 have HX:=hid (CB ex1.out hb.out hc.out zb.out zc.out)
 go_wp2_with fail
 refine (HX.out).mono ?_
 rintro e w1 ⟨rfl,b1⟩
 have HK1:=hid (HK0.out.call b1)
 replace b1:=hid b1
 have hc1:=Aj HK1.out.1
 clear HX
 have HX:=hid (CB ex2.out (hd.out.keep b1.out) (ha.out.keep b1.out) zd.out za.out)
 go_wp2_with fail
 refine (HX.out).mono ?_
 rintro e w2 ⟨rfl,b2⟩
 have HK2:=hid (HK1.out.call b2)
 replace b2:=hid b2
 have hc2:=Aj HK2.out.1
 clear HX
 have B2:=bS b1.out b2.out
 have ga:=hid (ha.out.keep B2)
 have gb:=hid (hb.out.keep B2)
 have gc:=hid (hc.out.keep B2)
 have gd:=hid (hd.out.keep B2)
 have H0:=HK2.out.begin6
 have H0':=H0
 unfold Af' at H0'
 clear B2 hc1 hc2
 go_wp2_with fail
 refine wp_region_held_drew (S:=(fun w'=>(∀ b o,b<w.heap.size+2→w'.cell? ⟨b,o,none⟩=wB.cell? ⟨b,o,none⟩))) (by kernel_rfl) ?_ (fun hHeld=>?_)
 · (try dsimp only)
   exact H0'.1
 obtain ⟨wd,hwd⟩:=eX w2.drew
 rw [←hwd] at hHeld H0 ⊢
 clear hwd H0'
 refine wpAnyH_take (i:=0) (v:=?vq1) (oi:=?oq1) ?eq1 ?aq1 ?bq1 ?cq1 ?dq1 ?yq1 ?sq1 ?rq1
 case eq1=>simp only [List.getElem?_toArray,List.getElem?_cons_zero,List.getElem?_cons_succ];rfl
 case aq1 | bq1 | cq1=>kernel_rfl
 case dq1=>exact fun _ _ _ h=>h
 case yq1=>refine Or.inl ⟨by rfl,?_⟩;intro w hSw;(try dsimp only at hSw);go_simp;try with_reducible rfl
 case sq1=>assumption
 try simp only [Act.put,List.setIfInBounds_toArray,List.set_cons_zero,List.set_cons_succ]
 refine wpAnyH_take (i:=1) (v:=?vq2) (oi:=?oq2) ?eq2 ?aq2 ?bq2 ?cq2 ?dq2 ?yq2 ?sq2 ?rq2
 case eq2=>simp only [List.getElem?_toArray,List.getElem?_cons_zero,List.getElem?_cons_succ];rfl
 case aq2 | bq2 | cq2=>kernel_rfl
 case dq2=>exact fun _ _ _ h=>h
 case yq2=>refine Or.inl ⟨by rfl,?_⟩;intro w hSw;(try dsimp only at hSw);go_simp;try with_reducible rfl
 case sq2=>assumption
 try simp only [Act.put,List.setIfInBounds_toArray,List.set_cons_zero,List.set_cons_succ]
 refine wpAnyH_take (i:=2) (v:=?vq3) (oi:=?oq3) ?eq3 ?aq3 ?bq3 ?cq3 ?dq3 ?yq3 ?sq3 ?rq3
 case eq3=>simp only [List.getElem?_toArray,List.getElem?_cons_zero,List.getElem?_cons_succ];rfl
 case aq3 | bq3 | cq3=>kernel_rfl
 case dq3=>exact fun _ _ _ h=>h
 case yq3=>refine Or.inl ⟨by rfl,?_⟩;intro w hSw;(try dsimp only at hSw);go_simp;try with_reducible rfl
 case sq3=>assumption
 try simp only [Act.put,List.setIfInBounds_toArray,List.set_cons_zero,List.set_cons_succ]
 refine wpAnyH_take (i:=3) (v:=?vq4) (oi:=?oq4) ?eq4 ?aq4 ?bq4 ?cq4 ?dq4 ?yq4 ?sq4 ?rq4
 case eq4=>simp only [List.getElem?_toArray,List.getElem?_cons_zero,List.getElem?_cons_succ];rfl
 case aq4 | bq4 | cq4=>kernel_rfl
 case dq4=>exact fun _ _ _ h=>h
 case yq4=>refine Or.inl ⟨by rfl,?_⟩;intro w hSw;(try dsimp only at hSw);go_simp;try with_reducible rfl
 case sq4=>assumption
 try simp only [Act.put,List.setIfInBounds_toArray,List.set_cons_zero,List.set_cons_succ]
 refine wpAnyH_take (i:=7) (v:=?vq5) (oi:=?oq5) ?eq5 ?aq5 ?bq5 ?cq5 ?dq5 ?yq5 ?sq5 ?rq5
 case eq5=>simp only [List.getElem?_toArray,List.getElem?_cons_zero,List.getElem?_cons_succ];rfl
 case aq5 | bq5 | cq5=>kernel_rfl
 case dq5=>exact fun _ _ _ h=>h
 case yq5=>refine Or.inl ⟨by rfl,?_⟩;intro w hSw;(try dsimp only at hSw);go_simp;try with_reducible rfl
 case sq5=>assumption
 try simp only [Act.put,List.setIfInBounds_toArray,List.set_cons_zero,List.set_cons_succ]
 refine wpAnyH_take (i:=8) (v:=?vq6) (oi:=?oq6) ?eq6 ?aq6 ?bq6 ?cq6 ?dq6 ?yq6 ?sq6 ?rq6
 case eq6=>simp only [List.getElem?_toArray,List.getElem?_cons_zero,List.getElem?_cons_succ];rfl
 case aq6 | bq6 | cq6=>kernel_rfl
 case dq6=>exact fun _ _ _ h=>h
 case yq6=>refine Or.inl ⟨by rfl,?_⟩;intro w hSw;(try dsimp only at hSw);go_simp;try with_reducible rfl
 case sq6=>assumption
 try simp only [Act.put,List.setIfInBounds_toArray,List.set_cons_zero,List.set_cons_succ]
 refine wpAnyH_take (i:=9) (v:=?vq7) (oi:=?oq7) ?eq7 ?aq7 ?bq7 ?cq7 ?dq7 ?yq7 ?sq7 ?rq7
 case eq7=>simp only [List.getElem?_toArray,List.getElem?_cons_zero,List.getElem?_cons_succ];rfl
 case aq7 | bq7 | cq7=>kernel_rfl
 case dq7=>exact fun _ _ _ h=>h
 case yq7=>refine Or.inl ⟨by rfl,?_⟩;intro w hSw;(try dsimp only at hSw);go_simp;try with_reducible rfl
 case sq7=>assumption
 try simp only [Act.put,List.setIfInBounds_toArray,List.set_cons_zero,List.set_cons_succ]
 refine wpAnyH_take (i:=10) (v:=?vq8) (oi:=?oq8) ?eq8 ?aq8 ?bq8 ?cq8 ?dq8 ?yq8 ?sq8 ?rq8
 case eq8=>simp only [List.getElem?_toArray,List.getElem?_cons_zero,List.getElem?_cons_succ];rfl
 case aq8 | bq8 | cq8=>kernel_rfl
 case dq8=>exact fun _ _ _ h=>h
 case yq8=>refine Or.inl ⟨by rfl,?_⟩;intro w hSw;(try dsimp only at hSw);go_simp;try with_reducible rfl
 case sq8=>assumption
 try simp only [Act.put,List.setIfInBounds_toArray,List.set_cons_zero,List.set_cons_succ]
 generalize hF:wpAnyH _ _ _ _ _=F
 replace hF:=hid hF
 refine Eb' ?_
 intro A0 hA
 replace hA:=hid hA
 have H0h:=hid H0
 clear H0 hHeld
 have st2_2532:∀ (L:Array Bool) (u:World) (E1:Option Addr) (E2:Option Addr) (E3:Option Addr) (E4:Option Addr) (e1:Nat) (e2:Nat) (e3:Nat) (e4:Nat) (E5:Option Addr) (E6:Option Addr) (E7:Option Addr) (E8:Option Addr) (e5:Nat) (e6:Nat) (e7:Nat) (e8:Nat) (n25:Nat) (n32:Nat),L=#[true,true,true,true,true,true,true,true,true,true,true,true,true,true,true,false,false]→Hid (Af' wB (w.heap.size+2) w2 u)→Hid (Af u (.agg #[.bool (decide (q.num<0)),.slice E3 (len q.num.natAbs) e3,.slice E4 (len (below q.den)) e4]) q)→Hid (Af u (.agg #[.bool (decide (r.num<0)),.slice E5 (len r.num.natAbs) e5,.slice E6 (len (below r.den)) e6]) r)→F 2 L (Act.put (Act.put (Act.put (Act.put (Act.put (Act.put (Act.put A0 (some 25) (.slice (some ⟨n25,0,none⟩) 1 1)) (some 32) (.slice (some ⟨n32,0,none⟩) 1 1)) (some 26) (.agg #[.bool (decide (q'.num<0)),.slice E1 (len q'.num.natAbs) e1,.slice E2 (len (below q'.den)) e2,.bool (decide (q.num<0)),.slice E3 (len q.num.natAbs) e3,.slice E4 (len (below q.den)) e4])) (some 27) (.agg #[.bool (decide (q.num<0)),.slice E3 (len q.num.natAbs) e3,.slice E4 (len (below q.den)) e4])) (some 33) (.agg #[.bool (decide (r.num<0)),.slice E5 (len r.num.natAbs) e5,.slice E6 (len (below r.den)) e6,.bool (decide (r'.num<0)),.slice E7 (len r'.num.natAbs) e7,.slice E8 (len (below r'.den)) e8])) (some 34) (.agg #[.bool (decide (r.num<0)),.slice E5 (len r.num.natAbs) e5,.slice E6 (len (below r.den)) e6])) (some 35) (.agg #[.bool (decide (q.num<0)),.slice E3 (len q.num.natAbs) e3,.slice E4 (len (below q.den)) e4,.bool (decide (r.num<0)),.slice E5 (len r.num.natAbs) e5,.slice E6 (len (below r.den)) e6])) u:=by
   intro L u E1 E2 E3 E4 e1 e2 e3 e4 E5 E6 E7 E8 e5 e6 e7 e8 n25 n32 hLL HK I1 I2
   subst hLL
   rw [←hF.out,←hA.out]
   try simp only [Act.put,List.setIfInBounds_toArray,List.set_cons_zero,List.set_cons_succ]
   refine wpAnyH_ready (rs:=[15]) (by kernel_rfl) (by simp) ?_
   refine AllReadyH.cons (o:=?oq9) ?eq9 ?kq9 AllReadyH.nil
   case eq9=>simp only [List.getElem?_toArray,List.getElem?_cons_zero,List.getElem?_cons_succ];rfl
   intro K hK
   have hk:=HK.out
   have hk':=hk
   unfold Af' at hk'
   obtain ⟨-,c0,c1',c2',c3',c4',c5',f0,f1,f2,f3,f4,f5,-⟩:=hk'
   have HD:=hk.done (p:=q) (q:=r) (s1:=decide (q.num<0)) (A1:=E3) (n1:=len q.num.natAbs) (c1:=e3) (A2:=E4) (n2:=len (below q.den)) (c2:=e4) (s2:=decide (r.num<0)) (A3:=E5) (n3:=len r.num.natAbs) (c3:=e5) (A4:=E6) (n4:=len (below r.den)) (c4:=e6) I1.out I2.out
   obtain ⟨d1,d2,d3⟩:=HD
   have hs:=hid (Aj d2)
   have HD:=hid (And.intro d1 d2)
   replace d3:=hid d3
   clear d1 d2 hk
   go_simp
   clear c0 c1' c2' c3' c4' c5' f0 f1 f2 f3 f4 f5
   refine hK.out _ _ ?_ (fun hHeld=>?_)
   · (try dsimp only)
     exact hs.out
   clear hK K
   try simp only [Act.put,List.setIfInBounds_toArray,List.set_cons_zero,List.set_cons_succ]
   refine wpAnyH_ready (rs:=[16]) (by kernel_rfl) (by simp) ?_
   refine AllReadyH.cons (o:=?oq10) ?eq10 ?kq10 AllReadyH.nil
   case eq10=>simp only [List.getElem?_toArray,List.getElem?_cons_zero,List.getElem?_cons_succ];rfl
   intro K hK
   go_simp
   refine hK.out _ _ ?_ (fun hHeld2=>?_)
   · (try dsimp only)
     exact hs.out
   clear hK K hHeld hHeld2
   try simp only [Act.put,List.setIfInBounds_toArray,List.set_cons_zero,List.set_cons_succ]
   refine wpAnyH_done (by kernel_rfl) ?_ _
   obtain ⟨r0,r1,r2,r3,r4,r5⟩:=Ad' d3.out
   go_wp2_with fail
   refine bP (v:=.tuple #[.agg #[.bool (decide (q.num<0)),.slice E3 (len q.num.natAbs) e3,.slice E4 (len (below q.den)) e4,.bool (decide (r.num<0)),.slice E5 (len r.num.natAbs) e5,.slice E6 (len (below r.den)) e6],.bool true]) ?_ rfl ⟨_,rfl,HD.out.1,Ae HB0.out (by omega) HD.out.2⟩
   simp [results,Tryz.results29,go_sem,r0,r1,r2,r3,r4,r5]
 simp only [←hA.out,Act.put,List.setIfInBounds_toArray,List.set_cons_zero,List.set_cons_succ] at st2_2532
 replace st2_2532:=hid st2_2532
 have st1_2532:∀ (L:Array Bool) (u:World) (E1:Option Addr) (E2:Option Addr) (E3:Option Addr) (E4:Option Addr) (e1:Nat) (e2:Nat) (e3:Nat) (e4:Nat) (n25:Nat) (n32:Nat),L=#[true,true,true,true,true,true,true,true,true,true,true,true,false,false,false,false,false]→Hid (Af' wB (w.heap.size+2) w2 u)→Hid (BG' u n32 0 [d])→Hid (Af u (.agg #[.bool (decide (q.num<0)),.slice E3 (len q.num.natAbs) e3,.slice E4 (len (below q.den)) e4]) q)→F 5 L (Act.put (Act.put (Act.put (Act.put A0 (some 25) (.slice (some ⟨n25,0,none⟩) 1 1)) (some 32) (.slice (some ⟨n32,0,none⟩) 1 1)) (some 26) (.agg #[.bool (decide (q'.num<0)),.slice E1 (len q'.num.natAbs) e1,.slice E2 (len (below q'.den)) e2,.bool (decide (q.num<0)),.slice E3 (len q.num.natAbs) e3,.slice E4 (len (below q.den)) e4])) (some 27) (.agg #[.bool (decide (q.num<0)),.slice E3 (len q.num.natAbs) e3,.slice E4 (len (below q.den)) e4])) u:=by
   intro L u E1 E2 E3 E4 e1 e2 e3 e4 n25 n32 hLL HK Y32 I1
   subst hLL
   rw [←hF.out,←hA.out]
   try simp only [Act.put,List.setIfInBounds_toArray,List.set_cons_zero,List.set_cons_succ]
   refine wpAnyH_ready (rs:=[12]) (by kernel_rfl) (by simp) ?_
   refine AllReadyH.cons (o:=?o12q11) ?e12q11 ?k12q11 AllReadyH.nil
   case e12q11=>simp only [List.getElem?_toArray,List.getElem?_cons_zero,List.getElem?_cons_succ] <;> rfl
   case k12q11 =>
     intro K hK
     go_simp
     go_at_call 69
     refine (DJ' er.out er'.out (HK.out.stay.num gb.out) Y32.out zb.out zd.out).mono ?_
     rintro e u2 ⟨v2,rfl,hv2,hb2⟩
     obtain ⟨E5,e5,E6,e6,E7,e7,E8,e8,rfl,hlo2,hhi2⟩:=id hv2.opened
     clear hv2
     have HK2:=HK.out.call hb2
     refine hK.out _ _ ?_ (fun hHeld=>?_)
     · (try dsimp only)
       exact HK2.1
     clear hK K
     try simp only [Act.put,List.setIfInBounds_toArray,List.set_cons_zero,List.set_cons_succ]
     have hfd:=fun (w':World)=>H8 (decide (r.num<0)) (decide (r'.num<0)) E5 E6 E7 E8 (len r.num.natAbs) e5 (len (below r.den)) e6 (len r'.num.natAbs) e7 (len (below r'.den)) e8 w'
     refine wpAnyH_take (i:=13) (v:=?vq12) (oi:=?oq12) ?eq12 ?aq12 ?bq12 ?cq12 ?dq12 ?yq12 ?sq12 ?rq12
     case eq12=>simp only [List.getElem?_toArray,List.getElem?_cons_zero,List.getElem?_cons_succ];rfl
     case aq12 | bq12 | cq12=>kernel_rfl
     case dq12=>exact fun _ _ _ h=>h
     case yq12=>refine Or.inl ⟨by rfl,?_⟩;intro w hSw;(try dsimp only at hSw);go_simp;try with_reducible rfl
     case sq12=>assumption
     try simp only [Act.put,List.setIfInBounds_toArray,List.set_cons_zero,List.set_cons_succ]
     refine wpAnyH_take (i:=14) (v:=?vq13) (oi:=?oq13) ?eq13 ?aq13 ?bq13 ?cq13 ?dq13 ?yq13 ?sq13 ?rq13
     case eq13=>simp only [List.getElem?_toArray,List.getElem?_cons_zero,List.getElem?_cons_succ];rfl
     case aq13 | bq13 | cq13=>kernel_rfl
     case dq13=>exact fun _ _ _ h=>h
     case yq13=>refine Or.inl ⟨by rfl,?_⟩;intro w hSw;(try dsimp only at hSw);go_simp;try with_reducible rfl
     case sq13=>assumption
     try simp only [Act.put,List.setIfInBounds_toArray,List.set_cons_zero,List.set_cons_succ]
     clear hfd
     rw [hF.out]
     exact st2_2532.out _ _ E1 E2 E3 E4 e1 e2 e3 e4 E5 E6 E7 E8 e5 e6 e7 e8 n25 n32 (by kernel_rfl) HK2 (I1.out.keep hb2) hlo2
 simp only [←hA.out,Act.put,List.setIfInBounds_toArray,List.set_cons_zero,List.set_cons_succ] at st1_2532
 replace st1_2532:=hid st1_2532
 have st1_25:∀ (L:Array Bool) (u:World) (E1:Option Addr) (E2:Option Addr) (E3:Option Addr) (E4:Option Addr) (e1:Nat) (e2:Nat) (e3:Nat) (e4:Nat) (n25:Nat),L=#[true,true,true,true,true,true,true,true,true,true,true,false,false,false,false,false,false]→Hid (Af' wB (w.heap.size+2) w2 u)→Hid (Af u (.agg #[.bool (decide (q.num<0)),.slice E3 (len q.num.natAbs) e3,.slice E4 (len (below q.den)) e4]) q)→F 6 L (Act.put (Act.put (Act.put A0 (some 25) (.slice (some ⟨n25,0,none⟩) 1 1)) (some 26) (.agg #[.bool (decide (q'.num<0)),.slice E1 (len q'.num.natAbs) e1,.slice E2 (len (below q'.den)) e2,.bool (decide (q.num<0)),.slice E3 (len q.num.natAbs) e3,.slice E4 (len (below q.den)) e4])) (some 27) (.agg #[.bool (decide (q.num<0)),.slice E3 (len q.num.natAbs) e3,.slice E4 (len (below q.den)) e4])) u:=by
   intro L u E1 E2 E3 E4 e1 e2 e3 e4 n25 hLL HK I1
   subst hLL
   rw [←hF.out,←hA.out]
   try simp only [Act.put,List.setIfInBounds_toArray,List.set_cons_zero,List.set_cons_succ]
   refine wpAnyH_ready (rs:=[11]) (by kernel_rfl) (by simp) ?_
   refine AllReadyH.cons (o:=?o11q14) ?e11q14 ?k11q14 AllReadyH.nil
   case e11q14=>simp only [List.getElem?_toArray,List.getElem?_cons_zero,List.getElem?_cons_succ] <;> rfl
   case k11q14 =>
     intro K hK
     go_simp
     have hb2:Below u.heap.size u (u.alloc (.cells #[.bool (decide (d.num<0)),.slice A7 (len d.num.natAbs) c7,.slice A8 (len (below d.den)) c8] 31)):=(Below.refl _ _).alloc (nL _) _
     have HK2:=HK.out.call hb2
     have Y2:=CB' (HK.out.stay.num gd.out)
     refine hK.out _ _ ?_ (fun hHeld=>?_)
     · (try dsimp only)
       exact HK2.1
     clear hK K
     try simp only [Act.put,List.setIfInBounds_toArray,List.set_cons_zero,List.set_cons_succ]
     rw [hF.out]
     exact st1_2532.out _ _ E1 E2 E3 E4 e1 e2 e3 e4 n25 u.heap.size (by kernel_rfl) HK2 Y2 (I1.out.keep hb2)
 simp only [←hA.out,Act.put,List.setIfInBounds_toArray,List.set_cons_zero,List.set_cons_succ] at st1_25
 replace st1_25:=hid st1_25
 have st0_2532:∀ (L:Array Bool) (u:World) (n25:Nat) (n32:Nat),L=#[true,true,true,true,true,false,false,true,true,true,true,true,false,false,false,false,false]→Hid (Af' wB (w.heap.size+2) w2 u)→Hid (BG' u n25 0 [c])→Hid (BG' u n32 0 [d])→F 7 L (Act.put (Act.put A0 (some 25) (.slice (some ⟨n25,0,none⟩) 1 1)) (some 32) (.slice (some ⟨n32,0,none⟩) 1 1)) u:=by
   intro L u n25 n32 hLL HK Y25 Y32
   subst hLL
   rw [←hF.out,←hA.out]
   try simp only [Act.put,List.setIfInBounds_toArray,List.set_cons_zero,List.set_cons_succ]
   refine wpAnyH_ready (rs:=[5]) (by kernel_rfl) (by simp) ?_
   refine AllReadyH.cons (o:=?o5q15) ?e5q15 ?k5q15 AllReadyH.nil
   case e5q15=>simp only [List.getElem?_toArray,List.getElem?_cons_zero,List.getElem?_cons_succ] <;> rfl
   case k5q15 =>
     intro K hK
     go_simp
     go_at_call 69
     refine (DJ' eq'.out eq.out (HK.out.stay.num ga.out) Y25.out za.out zc.out).mono ?_
     rintro e u2 ⟨v2,rfl,hv2,hb2⟩
     obtain ⟨E1,e1,E2,e2,E3,e3,E4,e4,rfl,hlo2,hhi2⟩:=id hv2.opened
     clear hv2
     have HK2:=HK.out.call hb2
     refine hK.out _ _ ?_ (fun hHeld=>?_)
     · (try dsimp only)
       exact HK2.1
     clear hK K
     try simp only [Act.put,List.setIfInBounds_toArray,List.set_cons_zero,List.set_cons_succ]
     have hfd:=fun (w':World)=>Fg (decide (q'.num<0)) (decide (q.num<0)) E1 E2 E3 E4 (len q'.num.natAbs) e1 (len (below q'.den)) e2 (len q.num.natAbs) e3 (len (below q.den)) e4 w'
     refine wpAnyH_take (i:=6) (v:=?vq16) (oi:=?oq16) ?eq16 ?aq16 ?bq16 ?cq16 ?dq16 ?yq16 ?sq16 ?rq16
     case eq16=>simp only [List.getElem?_toArray,List.getElem?_cons_zero,List.getElem?_cons_succ];rfl
     case aq16 | bq16 | cq16=>kernel_rfl
     case dq16=>exact fun _ _ _ h=>h
     case yq16=>refine Or.inl ⟨by rfl,?_⟩;intro w hSw;(try dsimp only at hSw);go_simp;try with_reducible rfl
     case sq16=>assumption
     try simp only [Act.put,List.setIfInBounds_toArray,List.set_cons_zero,List.set_cons_succ]
     clear hfd
     rw [hF.out]
     exact st1_2532.out _ _ E1 E2 E3 E4 e1 e2 e3 e4 n25 n32 (by kernel_rfl) HK2 (Y32.out.keep hb2) hhi2
 simp only [←hA.out,Act.put,List.setIfInBounds_toArray,List.set_cons_zero,List.set_cons_succ] at st0_2532
 replace st0_2532:=hid st0_2532
 have st0_25:∀ (L:Array Bool) (u:World) (n25:Nat),L=#[true,true,true,true,true,false,false,true,true,true,true,false,false,false,false,false,false]→Hid (Af' wB (w.heap.size+2) w2 u)→Hid (BG' u n25 0 [c])→F 8 L (Act.put A0 (some 25) (.slice (some ⟨n25,0,none⟩) 1 1)) u:=by
   intro L u n25 hLL HK Y25
   subst hLL
   rw [←hF.out,←hA.out]
   try simp only [Act.put,List.setIfInBounds_toArray,List.set_cons_zero,List.set_cons_succ]
   refine wpAnyH_ready (rs:=[5,11]) (by kernel_rfl) (by simp) ?_
   refine AllReadyH.cons (o:=?o5q17) ?e5q17 ?k5q17 (AllReadyH.cons (o:=?o11q17) ?e11q17 ?k11q17 AllReadyH.nil)
   case e5q17=>simp only [List.getElem?_toArray,List.getElem?_cons_zero,List.getElem?_cons_succ] <;> rfl
   case e11q17=>simp only [List.getElem?_toArray,List.getElem?_cons_zero,List.getElem?_cons_succ] <;> rfl
   case k5q17 =>
     intro K hK
     go_simp
     go_at_call 69
     refine (DJ' eq'.out eq.out (HK.out.stay.num ga.out) Y25.out za.out zc.out).mono ?_
     rintro e u2 ⟨v2,rfl,hv2,hb2⟩
     obtain ⟨E1,e1,E2,e2,E3,e3,E4,e4,rfl,hlo2,hhi2⟩:=id hv2.opened
     clear hv2
     have HK2:=HK.out.call hb2
     refine hK.out _ _ ?_ (fun hHeld=>?_)
     · (try dsimp only)
       exact HK2.1
     clear hK K
     try simp only [Act.put,List.setIfInBounds_toArray,List.set_cons_zero,List.set_cons_succ]
     have hfd:=fun (w':World)=>Fg (decide (q'.num<0)) (decide (q.num<0)) E1 E2 E3 E4 (len q'.num.natAbs) e1 (len (below q'.den)) e2 (len q.num.natAbs) e3 (len (below q.den)) e4 w'
     refine wpAnyH_take (i:=6) (v:=?vq18) (oi:=?oq18) ?eq18 ?aq18 ?bq18 ?cq18 ?dq18 ?yq18 ?sq18 ?rq18
     case eq18=>simp only [List.getElem?_toArray,List.getElem?_cons_zero,List.getElem?_cons_succ];rfl
     case aq18 | bq18 | cq18=>kernel_rfl
     case dq18=>exact fun _ _ _ h=>h
     case yq18=>refine Or.inl ⟨by rfl,?_⟩;intro w hSw;(try dsimp only at hSw);go_simp;try with_reducible rfl
     case sq18=>assumption
     try simp only [Act.put,List.setIfInBounds_toArray,List.set_cons_zero,List.set_cons_succ]
     clear hfd
     rw [hF.out]
     exact st1_25.out _ _ E1 E2 E3 E4 e1 e2 e3 e4 n25 (by kernel_rfl) HK2 hhi2
   case k11q17 =>
     intro K hK
     go_simp
     have hb2:Below u.heap.size u (u.alloc (.cells #[.bool (decide (d.num<0)),.slice A7 (len d.num.natAbs) c7,.slice A8 (len (below d.den)) c8] 31)):=(Below.refl _ _).alloc (nL _) _
     have HK2:=HK.out.call hb2
     have Y2:=CB' (HK.out.stay.num gd.out)
     refine hK.out _ _ ?_ (fun hHeld=>?_)
     · (try dsimp only)
       exact HK2.1
     clear hK K
     try simp only [Act.put,List.setIfInBounds_toArray,List.set_cons_zero,List.set_cons_succ]
     rw [hF.out]
     exact st0_2532.out _ _ n25 u.heap.size (by kernel_rfl) HK2 (Y25.out.keep hb2) Y2
 simp only [←hA.out,Act.put,List.setIfInBounds_toArray,List.set_cons_zero,List.set_cons_succ] at st0_25
 replace st0_25:=hid st0_25
 have st0_32:∀ (L:Array Bool) (u:World) (n32:Nat),L=#[true,true,true,true,false,false,false,true,true,true,true,true,false,false,false,false,false]→Hid (Af' wB (w.heap.size+2) w2 u)→Hid (BG' u n32 0 [d])→F 8 L (Act.put A0 (some 32) (.slice (some ⟨n32,0,none⟩) 1 1)) u:=by
   intro L u n32 hLL HK Y32
   subst hLL
   rw [←hF.out,←hA.out]
   try simp only [Act.put,List.setIfInBounds_toArray,List.set_cons_zero,List.set_cons_succ]
   refine wpAnyH_ready (rs:=[4]) (by kernel_rfl) (by simp) ?_
   refine AllReadyH.cons (o:=?o4q19) ?e4q19 ?k4q19 AllReadyH.nil
   case e4q19=>simp only [List.getElem?_toArray,List.getElem?_cons_zero,List.getElem?_cons_succ] <;> rfl
   case k4q19 =>
     intro K hK
     go_simp
     have hb2:Below u.heap.size u (u.alloc (.cells #[.bool (decide (c.num<0)),.slice A5 (len c.num.natAbs) c5,.slice A6 (len (below c.den)) c6] 31)):=(Below.refl _ _).alloc (nL _) _
     have HK2:=HK.out.call hb2
     have Y2:=CB' (HK.out.stay.num gc.out)
     refine hK.out _ _ ?_ (fun hHeld=>?_)
     · (try dsimp only)
       exact HK2.1
     clear hK K
     try simp only [Act.put,List.setIfInBounds_toArray,List.set_cons_zero,List.set_cons_succ]
     rw [hF.out]
     exact st0_2532.out _ _ u.heap.size n32 (by kernel_rfl) HK2 Y2 (Y32.out.keep hb2)
 simp only [←hA.out,Act.put,List.setIfInBounds_toArray,List.set_cons_zero,List.set_cons_succ] at st0_32
 replace st0_32:=hid st0_32
 have st0_n:∀ (L:Array Bool) (u:World),L=#[true,true,true,true,false,false,false,true,true,true,true,false,false,false,false,false,false]→Hid (Af' wB (w.heap.size+2) w2 u)→F 9 L A0 u:=by
   intro L u  hLL HK
   subst hLL
   rw [←hF.out,←hA.out]
   try simp only [Act.put,List.setIfInBounds_toArray,List.set_cons_zero,List.set_cons_succ]
   refine wpAnyH_ready (rs:=[4,11]) (by kernel_rfl) (by simp) ?_
   refine AllReadyH.cons (o:=?o4q20) ?e4q20 ?k4q20 (AllReadyH.cons (o:=?o11q20) ?e11q20 ?k11q20 AllReadyH.nil)
   case e4q20=>simp only [List.getElem?_toArray,List.getElem?_cons_zero,List.getElem?_cons_succ] <;> rfl
   case e11q20=>simp only [List.getElem?_toArray,List.getElem?_cons_zero,List.getElem?_cons_succ] <;> rfl
   case k4q20 =>
     intro K hK
     go_simp
     have hb2:Below u.heap.size u (u.alloc (.cells #[.bool (decide (c.num<0)),.slice A5 (len c.num.natAbs) c5,.slice A6 (len (below c.den)) c6] 31)):=(Below.refl _ _).alloc (nL _) _
     have HK2:=HK.out.call hb2
     have Y2:=CB' (HK.out.stay.num gc.out)
     refine hK.out _ _ ?_ (fun hHeld=>?_)
     · (try dsimp only)
       exact HK2.1
     clear hK K
     try simp only [Act.put,List.setIfInBounds_toArray,List.set_cons_zero,List.set_cons_succ]
     rw [hF.out]
     exact st0_25.out _ _ u.heap.size (by kernel_rfl) HK2 Y2
   case k11q20 =>
     intro K hK
     go_simp
     have hb2:Below u.heap.size u (u.alloc (.cells #[.bool (decide (d.num<0)),.slice A7 (len d.num.natAbs) c7,.slice A8 (len (below d.den)) c8] 31)):=(Below.refl _ _).alloc (nL _) _
     have HK2:=HK.out.call hb2
     have Y2:=CB' (HK.out.stay.num gd.out)
     refine hK.out _ _ ?_ (fun hHeld=>?_)
     · (try dsimp only)
       exact HK2.1
     clear hK K
     try simp only [Act.put,List.setIfInBounds_toArray,List.set_cons_zero,List.set_cons_succ]
     rw [hF.out]
     exact st0_32.out _ _ u.heap.size (by kernel_rfl) HK2 Y2
 simp only [←hA.out,Act.put,List.setIfInBounds_toArray,List.set_cons_zero,List.set_cons_succ] at st0_n
 replace st0_n:=hid st0_n
 have HA:=hA.out
 subst HA
 exact st0_n.out _ _ (by kernel_rfl) H0h
end Go.Proofs.YtlcimajjnfbidaaGreatDoor
namespace Go.Proofs.YtlcimajjnfbidaaGreatDoor.Rf
open Lib (hid)
open Go.RowKit
open Rx
open Vx (Aa' Ao Ao')
open List renaming getElem?_toArray → lg, getElem?_cons_zero → lz, getElem?_cons_succ → ls, setIfInBounds_toArray → lt, set_cons_zero → ly, set_cons_succ → lu
theorem Go' {w:World} {vx:Value} {a b o:Rat} {n:Int} (ho:0=o) (h:n<0) (hx:Am' w vx a b) :
   Calls Tryz.prog 31 #[vx,.int .i64 n] w (AM' w o o 3):=by
 have d1:decide (n<0)=true:=dT_ h
 replace h:=hid h
 replace ho:=hid ho
 obtain ⟨C1,j1,C2,j2,C3,j3,C4,j4,rfl,-,-⟩:=id hx.opened
 clear hx
 obtain ⟨w1,hw1⟩:=eX (((w.alloc (.cells #[.bool (decide (a.num<0)),.slice C1 (Vx.len a.num.natAbs) j1,.slice C2 (Vx.len (below a.den)) j2,.bool (decide (b.num<0)),.slice C3 (Vx.len b.num.natAbs) j3,.slice C4 (Vx.len (below b.den)) j4] 48)).alloc (.cells #[.int .i64 n] 3)).alloc (.cells #[.bool false,.slice none 0 0,.slice none 0 0,.bool false,.slice none 0 0,.slice none 0 0] 48))
 obtain ⟨b1,-,g2,g3⟩:=Au' hw1
 replace g3:=hid g3
 replace b1:=hid b1
 have zn:w1.cell? ⟨w.heap.size+1,0,none⟩=some (.int .i64 n):=cR _ _ 0 _ _ _ g2
 clear g2
 go_enter Tryz.func31,Tryz.ntmps31
 go_upto_region 1 with fail
 rw [←hw1]
 clear hw1
 have DR:=(Ac' g3.out (Below.refl _ w1))
 have q0:w1.cell? ⟨w.heap.size+2,0,none⟩=some (.bool false):=cR _ _ _ _ _ _ DR
 have F0:w1.frozen? ⟨w.heap.size+2,0,none⟩=false:=fR w1 (w.heap.size+2) 0 _ _ DR
 have q1:w1.cell? ⟨w.heap.size+2,1,none⟩=some (.slice none 0 0):=cR _ _ _ _ _ _ DR
 have F1:w1.frozen? ⟨w.heap.size+2,1,none⟩=false:=fR w1 (w.heap.size+2) 1 _ _ DR
 have q2:w1.cell? ⟨w.heap.size+2,2,none⟩=some (.slice none 0 0):=cR _ _ _ _ _ _ DR
 have F2:w1.frozen? ⟨w.heap.size+2,2,none⟩=false:=fR w1 (w.heap.size+2) 2 _ _ DR
 have q3:w1.cell? ⟨w.heap.size+2,3,none⟩=some (.bool false):=cR _ _ _ _ _ _ DR
 have F3:w1.frozen? ⟨w.heap.size+2,3,none⟩=false:=fR w1 (w.heap.size+2) 3 _ _ DR
 have q4:w1.cell? ⟨w.heap.size+2,4,none⟩=some (.slice none 0 0):=cR _ _ _ _ _ _ DR
 have F4:w1.frozen? ⟨w.heap.size+2,4,none⟩=false:=fR w1 (w.heap.size+2) 4 _ _ DR
 have q5:w1.cell? ⟨w.heap.size+2,5,none⟩=some (.slice none 0 0):=cR _ _ _ _ _ _ DR
 have F5:w1.frozen? ⟨w.heap.size+2,5,none⟩=false:=fR w1 (w.heap.size+2) 5 _ _ DR
 have FB:=b1.out
 have FV:=(show Am' w1 (.agg #[.bool false,.slice none 0 0,.slice none 0 0,.bool false,.slice none 0 0,.slice none 0 0]) o o by rw [←ho.out];exact Af.pair (Ay' _) (Ay' _))
 obtain ⟨ue,hw⟩:=eX (((((((w1.setCell ⟨w.heap.size+2,0,none⟩ (.bool false)).setCell ⟨w.heap.size+2,1,none⟩ (.slice none 0 0)).setCell ⟨w.heap.size+2,2,none⟩ (.slice none 0 0)).setCell ⟨w.heap.size+2,3,none⟩ (.bool false)).setCell ⟨w.heap.size+2,4,none⟩ (.slice none 0 0)).setCell ⟨w.heap.size+2,5,none⟩ (.slice none 0 0)))
 obtain ⟨E_ue,-,LV,BL⟩:=AH DR hw
 have FE:=hid (LV.box FV)
 replace FB:=hid (BL _ _ (by omega) FB)
 replace E_ue:=hid E_ue
 replace hw:=hid hw
 clear DR FV LV BL
 go_wp2_with fail
 rw [←hw.out]
 obtain ⟨r0,r1,r2,r3,r4,r5⟩:=Ad' E_ue.out
 refine bP (v:=.tuple #[.agg #[.bool false,.slice none 0 0,.slice none 0 0,.bool false,.slice none 0 0,.slice none 0 0],.int .i64 3]) ?_ rfl ⟨_,rfl,FE.out,FB.out⟩
 simp [results,Tryz.results31,go_sem,r0,r1,r2,r3,r4,r5]
theorem Gp {w:World} {vx:Value} {a b o:Rat} {n:Int} (ho:0=o) (h:64<n) (hx:Am' w vx a b) :
   Calls Tryz.prog 31 #[vx,.int .i64 n] w (AM' w o o 3):=by
 have d1:decide (n<0)=false:=dF_ (by omega)
 have d2:decide (n>64)=true:=dT_ h
 replace h:=hid h
 replace ho:=hid ho
 obtain ⟨C1,j1,C2,j2,C3,j3,C4,j4,rfl,-,-⟩:=id hx.opened
 clear hx
 obtain ⟨w1,hw1⟩:=eX (((w.alloc (.cells #[.bool (decide (a.num<0)),.slice C1 (Vx.len a.num.natAbs) j1,.slice C2 (Vx.len (below a.den)) j2,.bool (decide (b.num<0)),.slice C3 (Vx.len b.num.natAbs) j3,.slice C4 (Vx.len (below b.den)) j4] 48)).alloc (.cells #[.int .i64 n] 3)).alloc (.cells #[.bool false,.slice none 0 0,.slice none 0 0,.bool false,.slice none 0 0,.slice none 0 0] 48))
 obtain ⟨b1,-,g2,g3⟩:=Au' hw1
 replace g3:=hid g3
 replace b1:=hid b1
 have zn:w1.cell? ⟨w.heap.size+1,0,none⟩=some (.int .i64 n):=cR _ _ 0 _ _ _ g2
 clear g2
 go_enter Tryz.func31,Tryz.ntmps31
 go_upto_region 1 with fail
 rw [←hw1]
 clear hw1
 have DR:=(Ac' g3.out (Below.refl _ w1))
 have q0:w1.cell? ⟨w.heap.size+2,0,none⟩=some (.bool false):=cR _ _ _ _ _ _ DR
 have F0:w1.frozen? ⟨w.heap.size+2,0,none⟩=false:=fR w1 (w.heap.size+2) 0 _ _ DR
 have q1:w1.cell? ⟨w.heap.size+2,1,none⟩=some (.slice none 0 0):=cR _ _ _ _ _ _ DR
 have F1:w1.frozen? ⟨w.heap.size+2,1,none⟩=false:=fR w1 (w.heap.size+2) 1 _ _ DR
 have q2:w1.cell? ⟨w.heap.size+2,2,none⟩=some (.slice none 0 0):=cR _ _ _ _ _ _ DR
 have F2:w1.frozen? ⟨w.heap.size+2,2,none⟩=false:=fR w1 (w.heap.size+2) 2 _ _ DR
 have q3:w1.cell? ⟨w.heap.size+2,3,none⟩=some (.bool false):=cR _ _ _ _ _ _ DR
 have F3:w1.frozen? ⟨w.heap.size+2,3,none⟩=false:=fR w1 (w.heap.size+2) 3 _ _ DR
 have q4:w1.cell? ⟨w.heap.size+2,4,none⟩=some (.slice none 0 0):=cR _ _ _ _ _ _ DR
 have F4:w1.frozen? ⟨w.heap.size+2,4,none⟩=false:=fR w1 (w.heap.size+2) 4 _ _ DR
 have q5:w1.cell? ⟨w.heap.size+2,5,none⟩=some (.slice none 0 0):=cR _ _ _ _ _ _ DR
 have F5:w1.frozen? ⟨w.heap.size+2,5,none⟩=false:=fR w1 (w.heap.size+2) 5 _ _ DR
 have FB:=b1.out
 have FV:=(show Am' w1 (.agg #[.bool false,.slice none 0 0,.slice none 0 0,.bool false,.slice none 0 0,.slice none 0 0]) o o by rw [←ho.out];exact Af.pair (Ay' _) (Ay' _))
 obtain ⟨ue,hw⟩:=eX (((((((w1.setCell ⟨w.heap.size+2,0,none⟩ (.bool false)).setCell ⟨w.heap.size+2,1,none⟩ (.slice none 0 0)).setCell ⟨w.heap.size+2,2,none⟩ (.slice none 0 0)).setCell ⟨w.heap.size+2,3,none⟩ (.bool false)).setCell ⟨w.heap.size+2,4,none⟩ (.slice none 0 0)).setCell ⟨w.heap.size+2,5,none⟩ (.slice none 0 0)))
 obtain ⟨E_ue,-,LV,BL⟩:=AH DR hw
 have FE:=hid (LV.box FV)
 replace FB:=hid (BL _ _ (by omega) FB)
 replace E_ue:=hid E_ue
 replace hw:=hid hw
 clear DR FV LV BL
 go_wp2_with fail
 rw [←hw.out]
 obtain ⟨r0,r1,r2,r3,r4,r5⟩:=Ad' E_ue.out
 refine bP (v:=.tuple #[.agg #[.bool false,.slice none 0 0,.slice none 0 0,.bool false,.slice none 0 0,.slice none 0 0],.int .i64 3]) ?_ rfl ⟨_,rfl,FE.out,FB.out⟩
 simp [results,Tryz.results31,go_sem,r0,r1,r2,r3,r4,r5]
theorem Gp' {w:World} {vx vy:Value} {a b c d l h:Rat} (el:a+c=l) (eh:b+d=h) (hx:Am' w vx a b) (hy:Am' w vy c d) (sa:Aa' a≤4100) (sb:Aa' b≤4100) (sc:Aa' c≤4100) (sd:Aa' d≤4100) :
   Calls Tryz.prog 17 #[vx,vy] w (AJ' w l h):=by
 subst el eh;exact Gj' hx hy (nT sa (by omega)) (nT sb (by omega)) (nT sc (by omega)) (nT sd (by omega))
theorem Gq {w:World} {vx vy:Value} {a b c d l h:Rat} (el:a - d=l) (eh:b - c=h) (hx:Am' w vx a b) (hy:Am' w vy c d) (sa:Aa' a≤4100) (sb:Aa' b≤4100) (sc:Aa' c≤4100) (sd:Aa' d≤4100) :
   Calls Tryz.prog 19 #[vx,vy] w (AJ' w l h):=by
 subst el eh;exact Gk hx hy (nT sa (by omega)) (nT sb (by omega)) (nT sc (by omega)) (nT sd (by omega))
theorem Gq' {w:World} {vx vy:Value} {a b c d l h:Rat} (el:leastOf (a*c) [a*d,b*c,b*d]=l) (eh:greatestOf (a*c) [a*d,b*c,b*d]=h) (hx:Am' w vx a b) (hy:Am' w vy c d) (sa:Aa' a≤4100) (sb:Aa' b≤4100) (sc:Aa' c≤4100) (sd:Aa' d≤4100) :
   Calls Tryz.prog 21 #[vx,vy] w (AJ' w l h):=by
 subst el eh;exact DT' hx hy (nT sa (by omega)) (nT sb (by omega)) (nT sc (by omega)) (nT sd (by omega))
theorem Gr {w:World} {vx:Value} {a b l h:Rat} (el : -b=l) (eh : -a=h) (hx:Am' w vx a b) (sa:Aa' a≤4100) (sb:Aa' b≤4100) :
   Calls Tryz.prog 23 #[vx] w (AJ' w l h):=by
 subst el eh;exact Gk' hx (nT sa (by omega)) (nT sb (by omega))
theorem Gr' {w:World} {vx:Value} {a b l h:Rat} (el:absLo a b=l) (eh:absHi a b=h) (hx:Am' w vx a b) (sa:Aa' a≤4100) (sb:Aa' b≤4100) :
   Calls Tryz.prog 25 #[vx] w (AJ' w l h):=by
 subst el eh;exact DV' hx (nT sa (by omega)) (nT sb (by omega))
theorem FD {w:World} {vx vy:Value} {a b c d l h:Rat} (el:leastOf a [b,c,d]=l) (eh:greatestOf a [b,c,d]=h) (hx:Am' w vx a b) (hy:Am' w vy c d) (sa:Aa' a≤4100) (sb:Aa' b≤4100) (sc:Aa' c≤4100) (sd:Aa' d≤4100) :
   Calls Tryz.prog 27 #[vx,vy] w (AJ' w l h):=by
 subst el eh;exact Fz' hx hy (nT sa (by omega)) (nT sb (by omega)) (nT sc (by omega)) (nT sd (by omega))
theorem Gs {w:World} {vx:Value} {a b l h:Rat} {n:Nat} (el:(if n%2=0 then absLo a b else a)^n=l) (eh:(if n%2=0 then absHi a b else b)^n=h) (hx:Am' w vx a b) (hn:n≤64) (sa:Aa' a≤4100) (sb:Aa' b≤4100) :
   Calls Tryz.prog 31 #[vx,.int .i64 (n:Nat)] w (AM' w l h 0):=by
 subst el eh;exact Gm' hx hn (nT sa (by omega)) (nT sb (by omega))
theorem Gs' {w:World} {vx vy:Value} {a b c d l h:Rat} (el:leastOf (a / c) [a / d,b / c,b / d]=l) (eh:greatestOf (a / c) [a / d,b / c,b / d]=h) (h0:¬ (c≤0∧0≤d)) (hx:Am' w vx a b) (hy:Am' w vy c d) (sa:Aa' a≤4100) (sb:Aa' b≤4100) (sc:Aa' c≤4100) (sd:Aa' d≤4100) :
   Calls Tryz.prog 34 #[vx,vy] w (AM' w l h 0):=by
 subst el eh;exact Hc' hx hy (nT sa (by omega)) (nT sb (by omega)) (nT sc (by omega)) (nT sd (by omega)) h0
theorem Hf' {w:World} {vx vy:Value} {a b c d o:Rat} (ho:0=o) (h0:c≤0∧0≤d) (hx:Am' w vx a b) (hy:Am' w vy c d) (sa:Aa' a≤4100) (sb:Aa' b≤4100) (sc:Aa' c≤4100) (sd:Aa' d≤4100) :
   Calls Tryz.prog 34 #[vx,vy] w (AM' w o o 10):=by
 subst ho;exact FA' hx hy (nT sa (by omega)) (nT sb (by omega)) (nT sc (by omega)) (nT sd (by omega)) h0
theorem FD' {w:World} {vx:Value} {a b l h:Rat} (el:absLo a b=l) (eh:absHi a b=h) (hx:Aq w vx a b) (sa:Aa' a≤4100) (sb:Aa' b≤4100) :
   Calls Tryz.prog 26 #[vx] w (AZ' w l h):=by
 rcases Decidable.em (a≤0∧0≤b) with k | k
 · exact Gn ((Dy' k).1.trans el) ((Dy' k).2.trans eh) (dT_ k) hx (nT sa (by omega)) (nT sb (by omega))
 · exact FC ((Dk' k).1.trans el) ((Dk' k).2.trans eh) (dF_ k) hx (nT sa (by omega)) (nT sb (by omega))
theorem FE' {w:World} {vx:Value} {a b l h:Rat} {n:Nat} (hab:a≤b) (el:(if n%2=0 then absLo a b else a)^n=l) (eh:(if n%2=0 then absHi a b else b)^n=h) (hx:Aq w vx a b) (hn:n≤64) (sa:Aa' a≤4100) (sb:Aa' b≤4100) :
   Calls Tryz.prog 33 #[vx,.int .i64 (n:Nat)] w (AZ' w l h):=by
 rcases Decidable.em (a≤0∧0≤b) with k | k
 · exact Gn' ((Dy hab k).1.trans el) ((Dy hab k).2.trans eh) (dT_ k) hx (nT sa (by omega)) (nT sb (by omega)) hn
 · exact FC' ((Dk hab k).1.trans el) ((Dk hab k).2.trans eh) (dF_ k) hx (nT sa (by omega)) (nT sb (by omega)) hn
theorem Fh {w:World} {vx vy:Value} {a b c d l h:Rat} (hab:a≤b) (hcd:c≤d) (el:leastOf a [b,c,d]=l) (eh:greatestOf a [b,c,d]=h) (hx:Aq w vx a b) (hy:Aq w vy c d) (sa:Aa' a≤4100) (sb:Aa' b≤4100) (sc:Aa' c≤4100) (sd:Aa' d≤4100) :
   Calls Tryz.prog 28 #[vx,vy] w (AZ' w l h):=by
 exact Fc ((Eu hab hcd).1.trans el) ((Eu hab hcd).2.trans eh) hx hy (nT sa (by omega)) (nT sb (by omega)) (nT sc (by omega)) (nT sd (by omega))
theorem FF {w:World} {vx vy:Value} {a b c d l h:Rat} {ok:Bool} (hab:a≤b) (hcd:c≤d) (el:(if b<c∨d<a then 0 else (if c≤a then a else c))=l) (eh:(if b<c∨d<a then 0 else (if b≤d then b else d))=h) (eo:decide (¬ (b<c∨d<a))=ok) (hx:Am' w vx a b) (hy:Am' w vy c d) (sa:Aa' a≤4100) (sb:Aa' b≤4100) (sc:Aa' c≤4100) (sd:Aa' d≤4100) :
   Calls Tryz.prog 29 #[vx,vy] w (Cp w l h ok):=by
 rcases Decidable.em (b<c) with k | k
 · rw [if_pos (Or.inl k)] at el eh
   subst el eh;obtain rfl:false=ok:=by rw [←eo];exact (dF_ (fun q=>q (Or.inl k))).symm
   exact EC hx hy (nT sa (by omega)) (nT sb (by omega)) (nT sc (by omega)) (nT sd (by omega)) k
 · rcases Decidable.em (d<a) with k2 | k2
   · rw [if_pos (Or.inr k2)] at el eh
     subst el eh;obtain rfl:false=ok:=by rw [←eo];exact (dF_ (fun q=>q (Or.inr k2))).symm
     exact EC' hx hy (nT sa (by omega)) (nT sb (by omega)) (nT sc (by omega)) (nT sd (by omega)) k k2
   · have k3:¬ (b<c∨d<a):=fun q=>q.elim k k2
     rw [if_neg k3] at el eh
     obtain rfl:true=ok:=by rw [←eo];exact (dT_ k3).symm
     have q1:=Fg' hx hy (nT sa (by omega)) (nT sb (by omega)) (nT sc (by omega)) (nT sd (by omega)) k k2
     rw [(DX' (a:=a) (b:=b) (c:=c) (d:=d)).1,(DX' (a:=a) (b:=b) (c:=c) (d:=d)).2,el,eh] at q1
     exact q1
theorem Fh' {w:World} {vx vy:Value} {a b c d l h:Rat} {ok:Bool} (hab:a≤b) (hcd:c≤d) (el:(if b<c∨d<a then 0 else (if c≤a then a else c))=l) (eh:(if b<c∨d<a then 0 else (if b≤d then b else d))=h) (eo:decide (¬ (b<c∨d<a))=ok) (hx:Aq w vx a b) (hy:Aq w vy c d) (sa:Aa' a≤4100) (sb:Aa' b≤4100) (sc:Aa' c≤4100) (sd:Aa' d≤4100) :
   Calls Tryz.prog 30 #[vx,vy] w (CH' w l h ok):=by
 rcases Decidable.em (b<c∨d<a) with k | k
 · rw [if_pos k] at el eh
   subst el eh;obtain rfl:false=ok:=by rw [←eo];exact (dF_ (fun q=>q k)).symm
   exact EB rfl rfl ((Eu' hab hcd rfl rfl).2 k) hx hy (nT sa (by omega)) (nT sb (by omega)) (nT sc (by omega)) (nT sd (by omega))
 · rw [if_neg k] at el eh
   obtain rfl:true=ok:=by rw [←eo];exact (dT_ k).symm
   have q1:=EB' rfl rfl (fun q=>k ((Eu' hab hcd rfl rfl).1 q)) hx hy (nT sa (by omega)) (nT sb (by omega)) (nT sc (by omega)) (nT sd (by omega))
   rw [el,eh] at q1
   exact q1
end Go.Proofs.YtlcimajjnfbidaaGreatDoor.Rf
