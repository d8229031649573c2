/-
  Contracts of the functions that the law calls, for every input (Ph BoxK BoxO GrF Pf Pi Pj Val).
-/
import Derived.Test.YtbigkkjnhcpgiaaGreatDoorQ00
import Derived.Test.YtbigkkjnhcpgiaaGreatDoorQ40
import Derived.WalkKit
import Derived.Shelf.Abstract
import Derived.Test.YtbigkkjnhcpgiaaGreatDoorQ38
import Derived.Test.YtbigkkjnhcpgiaaGreatDoorQ22
import Derived.Test.YtbigkkjnhcpgiaaGreatDoorQ19
import Derived.Test.YtbigkkjnhcpgiaaGreatDoorQ21
import Derived.Test.YtbigkkjnhcpgiaaGreatDoorQ37
import Derived.Test.YtbigkkjnhcpgiaaGreatDoorQ23
import Derived.Test.YtbigkkjnhcpgiaaGreatDoorQ12
set_option linter.all false
set_option maxRecDepth 100000
set_option maxHeartbeats 40000000
namespace Go.Proofs.YtbigkkjnhcpgiaaGreatDoor
open Lib (hid)
open Go.RowKit Go.Shelf
open Vx
attribute [local go_sem] Oper.semAt_some
def CQ (W:World) (A:Option Addr) (n:Nat) (vals:Nat→Value):Prop:=∀ j,j<n→∃ b o s A1 n1 c1 A2 n2 c2,A=some ⟨b,o,none⟩∧vals j=.agg #[.bool s,.slice A1 n1 c1,.slice A2 n2 c2] ∧
  W.cell? ⟨b,o+j*3,none⟩=some (.bool s)∧W.cell? ⟨b,o+j*3+1,none⟩=some (.slice A1 n1 c1)∧W.cell? ⟨b,o+j*3+2,none⟩=some (.slice A2 n2 c2)
theorem Gv' {n k:Nat} (h:k<n):((List.range n).drop k).reverse=((List.range n).drop (k+1)).reverse++[k]:=by
 rw [List.drop_eq_getElem_cons (by simpa using h),List.reverse_cons]
 simp
theorem Fp {m l Bs n cap B5:Nat} {A:Option Addr} {vals:Nat→Value} (hn:n≤1000) (hm:1≤m) (hb5:Bs≠B5) (hA:0<n→∀ b o,A=some ⟨b,o,none⟩→b≠B5) (J Jx:List (Fin n)→World→Prop)
   (hY:∀ pre x W,J pre W→pre.length<n→YieldAt Fence.wide (m - 1) Tryz.prog l #[vals x.1] W fun e W' =>
     (e=.returned (.bool true)∧J (pre++[x]) W'∧AP B5 W W')∨(e=.returned (.bool false)∧Jx (pre++[x]) W'))
   (W:World) (hBs:W.cell? ⟨Bs,0,none⟩=some (.slice A n cap)) (hc:CQ W A n vals) (h0:J [] W) :
   CallsIn Fence.wide m Tryz.prog 128 #[.func (.yield l) #[] #[],.pointer (some ⟨Bs,0,none⟩)] W fun e W'=>(∃ v,e=.returned v) ∧
     ((∃ ys,ys.map (·.1)=(List.range n).reverse∧J ys W')∨(∃ pre,pre.length≤n∧Jx pre W')):=by
 refine callsIn_of_wp Tryz.func128 rfl trivial ?_ rfl
 simp only [Tryz.ntmps128,List.size_toArray,List.length_cons,List.length_nil,Nat.reduceAdd,Nat.reduceSub,Array.replicate_succ,Array.replicate_zero,List.push_toArray,List.append_toArray,List.nil_append,List.cons_append]
 have hC:=hid hc
 have hAA:=hid hA
 have hYY:=hid hY
 clear hc hA hY
 gi_wp2
 gi_loopw [3] (fun iv wr=>∃ (k:Nat) (pre:List (Fin n)),k≤n∧iv=.int .i64 ((k:Nat) - 1:Int)∧Hid (pre.map (·.1)=((List.range n).drop k).reverse)∧J pre wr∧Hid (AP B5 W wr)) (fun iv _=>(intOf iv+1).toNat)
 case atStart=>exact ⟨n,[],nL _,rfl,hid (by simp),h0,hid (AP.refl _ _)⟩
 case round =>
   obtain ⟨k,pre,hk,rfl,hp,hJ,hK⟩:=hrel
   have hbx:=hK.out.cell hb5 hBs
   rcases Nat.eq_zero_or_pos k with rfl | hk0
   · gi_wp2
     go_end0
     exact ⟨⟨_,rfl⟩,.inl ⟨pre,by rw [hp.out];simp,hJ⟩⟩
   · obtain ⟨j,rfl⟩:∃ j,k=j+1:=⟨k - 1,by omega⟩
     obtain ⟨b,o,s,A1,n1,c1,A2,n2,c2,rfl,hv,z0,z1,z2⟩:=hC.out j (by omega)
     have hbB:=hAA.out (by omega) b o rfl
     have y0:=hK.out.cell hbB z0
     have y1:=hK.out.cell hbB z1
     have y2:=hK.out.cell hbB z2
     have hlen:pre.length<n:=by
       have:=congrArg List.length hp.out
       simp at this
       omega
     obtain ⟨fn,tmps,assign,body,hy,hR⟩:=hYY.out pre ⟨j,by omega⟩ wr hJ hlen
     dsimp only at hy
     rw [hv] at hy
     have hi:((j+1:Nat):Int) - 1=(j:Nat):=by omega
     rw [show (((j+1:Nat):Int) - 1)=((j:Nat):Int) by omega]
     have hjn:((j:Nat):Int)<1000:=by omega
     have hjl:decide (j<n)=true:=dT_ (by omega)
     have hJ2:=hid hJ
     have hp2:=hp
     have hv2:=hid hv
     clear z0 z1 z2 hi hv hp hC hAA
     gi_wp2
     refine hR.mono ?_
     rintro e W3 (⟨rfl,hJ3,hk3⟩ | ⟨rfl,hJx3⟩)
     · have hr:=hid (Gv' (n:=n) (k:=j) (by omega))
       have hKK:=hid (hK.out.trans hk3)
       have hJ4:=hid hJ3
       clear hJ3 hk3
       gi_wp2
       go_roundw
       case rel=>exact ⟨j,pre++[⟨j,by omega⟩],by omega,by go_num,hid (by rw [List.map_append,hp2.out,hr.out];rfl),hJ4.out,hKK⟩
       case measure=>simp [intOf]
     · gi_wp2
       refine bP (results_none rfl _ _ _) rfl ?_
       exact ⟨⟨_,rfl⟩,.inr ⟨_,by simp;omega,hJx3⟩⟩
theorem CQ.keep {W V:World} {A:Option Addr} {n:Nat} {vals:Nat→Value} (h:CQ W A n vals) (hb:Below W.heap.size W V):CQ V A n vals:=by
 intro j hj
 obtain ⟨b,o,s,A1,n1,c1,A2,n2,c2,e,hv,z0,z1,z2⟩:=h j hj
 have hl:=bL W _ z0
 exact ⟨b,o,s,A1,n1,c1,A2,n2,c2,e,hv,(hb.cell (p:=⟨b,o+j*3,none⟩) hl).trans z0,(hb.cell (p:=⟨b,o+j*3+1,none⟩) hl).trans z1,(hb.cell (p:=⟨b,o+j*3+2,none⟩) hl).trans z2⟩
theorem Em {m Bs n cap B5:Nat} {A:Option Addr} {vals:Nat→Value} {w:World} (hn:n≤1000) (hm:1≤m) (hb5:Bs≠B5) (hA:0<n→∀ b o,A=some ⟨b,o,none⟩→b≠B5) (hBs:w.cell? ⟨Bs,0,none⟩=some (.slice A n cap)) (hc:CQ w A n vals) :
   SeqStopsK Fence.wide m Tryz.prog 128 #[.pointer (some ⟨Bs,0,none⟩)] (fun j:Fin n=>#[vals j.1]) (AP B5) (fun ys=>ys.map (·.1)=(List.range n).reverse) (fun pre=>pre.length≤n) n w :=
 fun _ J Jx W hW _ _ hY h0=>Fp hn hm hb5 hA J Jx hY W ((hW.cell (p:=⟨Bs,0,none⟩) (bL w _ hBs)).trans hBs) (hc.keep hW) h0
theorem Fp' {w:World} {A:Option Addr} {n cap:Nat}:Calls Tryz.prog 83 #[.slice A n cap] w fun e w'=>e=.returned (.func (.func 128) #[] #[.pointer (some ⟨w.heap.size,0,none⟩)])∧w'=w.alloc (.cells #[.slice A n cap] 26):=by
 go_enter Tryz.func83,Tryz.ntmps83
 go_wp2_with fail
 go_ret
 exact ⟨rfl,rfl⟩
open Go.RowKit
theorem FH {w:World} {v u:Value} {a b c d:Rat} (hv:Ao' w v a b) (hu:Ao' w u c d) (sa:Aa' a≤34359738368) (sb:Aa' b≤34359738368) (sc:Aa' c≤34359738368) (sd:Aa' d≤34359738368) :
   Calls Tryz.prog 32 #[v,u] w (Bk' w (leastOf a [b,c,d]) (greatestOf a [b,c,d])):=by
 obtain ⟨A1,c1,A2,c2,A3,c3,A4,c4,rfl,ha,hb⟩:=hv.opened
 obtain ⟨A5,c5,A6,c6,A7,c7,A8,c8,rfl,hc,hd⟩:=hu.opened
 obtain ⟨wB,hwB⟩:=eX (((w.alloc (.cells #[.bool (decide (a.num<0)),.slice A1 (len a.num.natAbs) c1,.slice A2 (len (below a.den)) c2,.bool (decide (b.num<0)),.slice A3 (len b.num.natAbs) c3,.slice A4 (len (below b.den)) c4] 35)).alloc (.cells #[.bool (decide (c.num<0)),.slice A5 (len c.num.natAbs) c5,.slice A6 (len (below c.den)) c6,.bool (decide (d.num<0)),.slice A7 (len d.num.natAbs) c7,.slice A8 (len (below d.den)) c8] 35)).alloc (.cells #[.bool false,.slice none 0 0,.slice none 0 0,.bool false,.slice none 0 0,.slice none 0 0] 35))
 obtain ⟨b0,g0,g1,g2⟩:=AK' hwB
 obtain ⟨k0,k1,k2,k3,k4,k5⟩:=Ae' g0
 obtain ⟨k6,k7,k8,k9,k10,k11⟩:=Ae' g1
 have HK0:=hid (Ai'.start (T:=35) rfl BQ' g2)
 have HB0:=hid b0
 have hlt1:w.heap.size<w.heap.size+2:=by omega
 have hlt2:w.heap.size+1<w.heap.size+2:=by omega
 clear g0 g1 g2 b0
 have HX:=hid (D1' (ha.keep HB0.out) sa (hb.keep HB0.out) sb (hc.keep HB0.out) sc (hd.keep HB0.out) sd)
 obtain ⟨q,hq⟩:=eX (leastOf a [b,c,d]:Rat)
 obtain ⟨r,hr⟩:=eX (greatestOf a [b,c,d]:Rat)
 rw [←hq,←hr] at HX ⊢
 have HK1:=hid (HK0.out.alloc (o:=(.cells #[.bool (decide (b.num<0)),.slice A3 (len b.num.natAbs) c3,.slice A4 (len (below b.den)) c4,.bool (decide (c.num<0)),.slice A5 (len c.num.natAbs) c5,.slice A6 (len (below c.den)) c6,.bool (decide (d.num<0)),.slice A7 (len d.num.natAbs) c7,.slice A8 (len (below d.den)) c8] 33)))
 clear hq hr hv hu ha hb hc hd sa sb sc sd
 go_enter Tryz.func32,Tryz.ntmps32
 go_upto_region 1 with fail
 rw [←hwB]
 clear hwB
 go_wp2_with fail
 refine (HX.out).mono ?_
 rintro e w5 ⟨v5,rfl,hv5,b5⟩
 obtain ⟨C1,j1,C2,j2,C3,j3,C4,j4,rfl,hq1,hr1⟩:=hv5.opened
 have hk:=(HK1.out.call b5).held6 (Aj.refl _)
 have hk':=hk
 unfold Am' at hk'
 clear b5 HX HK1
 obtain ⟨-,c0,c1',c2',c3',c4',c5',f0,f1,f2,f3,f4,f5,-⟩:=hk'
 have HD:=hk.done (p:=q) (q:=r) (s1:=decide (q.num<0)) (A1:=C1) (n1:=len q.num.natAbs) (c1:=j1) (A2:=C2) (n2:=len (below q.den)) (c2:=j2) (s2:=decide (r.num<0)) (A3:=C3) (n3:=len r.num.natAbs) (c3:=j3) (A4:=C4) (n4:=len (below r.den)) (c4:=j4) (hq1) (hr1)
 obtain ⟨d1,d2,d3⟩:=HD
 obtain ⟨r0,r1,r2,r3,r4,r5⟩:=Ae' d3
 have HD:=hid (And.intro d1 d2)
 clear d1 d2 d3
 go_wp2_with fail
 refine bP (v:=.agg #[.bool (decide (q.num<0)),.slice (C1) (len q.num.natAbs) (j1),.slice (C2) (len (below q.den)) (j2),.bool (decide (r.num<0)),.slice (C3) (len r.num.natAbs) (j3),.slice (C4) (len (below r.den)) (j4)]) ?_ rfl ⟨_,rfl,HD.out.1,Ae HB0.out (by omega) HD.out.2⟩
 simp [results,Tryz.results32,go_sem,r0,r1,r2,r3,r4,r5]
theorem Hq {x:Rat} {l:List Rat} {N:Nat} (h:Aa' x≤N) (h2:∀ y∈l,Aa' y≤N):Aa' (leastOf x l)≤N:=by
 rcases DE l x with e | e
 · rw [e];exact h
 · exact h2 _ e
theorem Fq {x:Rat} {l:List Rat} {N:Nat} (h:Aa' x≤N) (h2:∀ y∈l,Aa' y≤N):Aa' (greatestOf x l)≤N:=by
 rcases CO l x with e | e
 · rw [e];exact h
 · exact h2 _ e
theorem Iv' (l:List Rat):∀ (x:Rat),leastOf x l≤x∧∀ y∈l,leastOf x l≤y:=by
 induction l with
 | nil=>intro x;exact ⟨Rat.le_refl,fun _ h=>by cases h⟩
 | cons z l ih =>
   intro x
   have e:leastOf x (z::l)=leastOf (if z<x then z else x) l:=rfl
   rw [e]
   obtain ⟨h1,h2⟩:=ih (if z<x then z else x)
   have h3:(if z<x then z else x)≤x∧(if z<x then z else x)≤z:=by split <;> constructor <;> grind
   refine ⟨Rat.le_trans h1 h3.1,fun y hy=>?_⟩
   rcases List.mem_cons.1 hy with rfl | hy
   · exact Rat.le_trans h1 h3.2
   · exact h2 y hy
theorem FH' (l:List Rat):∀ (x:Rat),x≤greatestOf x l∧∀ y∈l,y≤greatestOf x l:=by
 induction l with
 | nil=>intro x;exact ⟨Rat.le_refl,fun _ h=>by cases h⟩
 | cons z l ih =>
   intro x
   have e:greatestOf x (z::l)=greatestOf (if x<z then z else x) l:=rfl
   rw [e]
   obtain ⟨h1,h2⟩:=ih (if x<z then z else x)
   have h3:x≤(if x<z then z else x)∧z≤(if x<z then z else x):=by split <;> constructor <;> grind
   refine ⟨Rat.le_trans h3.1 h1,fun y hy=>?_⟩
   rcases List.mem_cons.1 hy with rfl | hy
   · exact Rat.le_trans h3.2 h1
   · exact h2 y hy
theorem Hq' (x y z t:Rat):leastOf x [y,z,t]≤x∧leastOf x [y,z,t]≤y∧leastOf x [y,z,t]≤z∧leastOf x [y,z,t]≤t:=by
 obtain ⟨h1,h2⟩:=Iv' [y,z,t] x
 exact ⟨h1,h2 _ (by simp),h2 _ (by simp),h2 _ (by simp)⟩
theorem ED (x y z t:Rat):x≤greatestOf x [y,z,t]∧y≤greatestOf x [y,z,t]∧z≤greatestOf x [y,z,t]∧t≤greatestOf x [y,z,t]:=by
 obtain ⟨h1,h2⟩:=FH' [y,z,t] x
 exact ⟨h1,h2 _ (by simp),h2 _ (by simp),h2 _ (by simp)⟩
theorem Dw' {p q y k L:Rat} (h1:p≤y) (h2:y≤q) (i1:L≤k*p) (i2:L≤k*q):L≤k*y:=by
 rcases Decidable.em (0≤k) with hk | hk
 · exact Rat.le_trans i1 (Rat.mul_le_mul_of_nonneg_left h1 hk)
 · have h3:=Rat.mul_le_mul_of_nonneg_left h2 (show 0 ≤ -k by grind)
   grind
theorem DP' {p q y k G:Rat} (h1:p≤y) (h2:y≤q) (i1:k*p≤G) (i2:k*q≤G):k*y≤G:=by
 have:=Dw' (k := -k) (L := -G) h1 h2 (by grind) (by grind)
 grind
theorem Iw {a b c d x y L:Rat} (hx1:a≤x) (hx2:x≤b) (hy1:c≤y) (hy2:y≤d) (h:L≤a*c∧L≤a*d∧L≤b*c∧L≤b*d):L≤x*y:=by
 have e1:=Dw' hy1 hy2 h.1 h.2.1
 have e2:=Dw' hy1 hy2 h.2.2.1 h.2.2.2
 rw [Rat.mul_comm]
 exact Dw' hx1 hx2 (by rw [Rat.mul_comm];exact e1) (by rw [Rat.mul_comm];exact e2)
theorem Hr {a b c d x y G:Rat} (hx1:a≤x) (hx2:x≤b) (hy1:c≤y) (hy2:y≤d) (h:a*c≤G∧a*d≤G∧b*c≤G∧b*d≤G):x*y≤G:=by
 have e1:=DP' hy1 hy2 h.1 h.2.1
 have e2:=DP' hy1 hy2 h.2.2.1 h.2.2.2
 rw [Rat.mul_comm]
 exact DP' hx1 hx2 (by rw [Rat.mul_comm];exact e1) (by rw [Rat.mul_comm];exact e2)
theorem I9 {a b c d x y:Rat} (hx:a≤x∧x≤b) (hy:c≤y∧y≤d):leastOf (a*c) [a*d,b*c,b*d]≤x*y∧x*y≤greatestOf (a*c) [a*d,b*c,b*d] :=
 ⟨Iw hx.1 hx.2 hy.1 hy.2 (Hq' _ _ _ _),Hr hx.1 hx.2 hy.1 hy.2 (ED _ _ _ _)⟩
def Bs' (v p:Rat × Rat) (c:Rat):Rat × Rat:=(leastOf (v.1*p.1) [v.1*p.2,v.2*p.1,v.2*p.2]+c,greatestOf (v.1*p.1) [v.1*p.2,v.2*p.1,v.2*p.2]+c)
def AV (p:Rat × Rat) (l:List Rat):Rat × Rat:=l.foldr (fun c v=>Bs' v p c) (0,0)
def ER (l:List Rat) (x:Rat):Rat:=l.foldr (fun c v=>v*x+c) 0
theorem Hr' {p:Rat × Rat} {x:Rat} (h:p.1≤x∧x≤p.2) (l:List Rat):(AV p l).1≤ER l x∧ER l x≤(AV p l).2:=by
 induction l with
 | nil=>exact ⟨Rat.le_refl,Rat.le_refl⟩
 | cons c l ih =>
   have i:=I9 ih h
   show (Bs' (AV p l) p c).1≤ER l x*x+c∧ER l x*x+c≤(Bs' (AV p l) p c).2
   unfold Bs'
   constructor <;> grind
theorem Hs' {p:Rat × Rat} (h:p.1≤p.2) (l:List Rat):(AV p l).1≤(AV p l).2:=by
 have i:=Hr' (x:=p.1) ⟨Rat.le_refl,h⟩ l
 exact Rat.le_trans i.1 i.2
def Az (a b:Rat) (n i:Nat):Rat:=a+(b - a) / ((n:Nat):Rat)*((i:Nat):Rat)
theorem Ht {n:Nat} (h:0<n):((n:Nat):Rat)≠0:=by
 intro e
 have:(n:Rat)=((0:Nat):Rat):=by rw [e];rfl
 have:=Rat.natCast_inj.1 this
 omega
theorem Jo' (n:Nat):(0:Rat)≤((n:Nat):Rat):=by
 exact Rat.natCast_nonneg
theorem Iw' {a b:Rat} {n:Nat} (h:a≤b):0≤(b - a) / ((n:Nat):Rat):=by
 rw [Rat.div_def]
 refine Rat.mul_nonneg (by grind) ?_
 rcases Nat.eq_zero_or_pos n with rfl | hn
 · have e:(((0:Nat):Rat))⁻¹=0:=by decide +kernel
   rw [e]
   exact Rat.le_refl
 · have h1:=Jo' n
   have h2:=Ht hn
   exact Rat.le_of_lt (Rat.inv_pos.2 (by grind))
theorem Ix {a b:Rat} {n i j:Nat} (h:a≤b) (hij:i≤j):Az a b n i≤Az a b n j:=by
 unfold Az
 have h1:((i:Nat):Rat)≤((j:Nat):Rat):=Rat.natCast_le_natCast.2 hij
 have h2:=Rat.mul_le_mul_of_nonneg_left h1 (Iw' (n:=n) h)
 grind
def D7 (v p:Rat × Rat):Rat × Rat:=(leastOf v.1 [v.2,p.1,p.2],greatestOf v.1 [v.2,p.1,p.2])
def Aw' (f:Nat→Rat × Rat):Nat→Rat × Rat
  | 0=>f 0
  | k+1=>D7 (Aw' f k) (f (k+1))
theorem Gw (f:Nat→Rat × Rat) (k:Nat):∀ i,i≤k→(Aw' f k).1≤(f i).1∧(f i).2≤(Aw' f k).2:=by
 induction k with
 | zero =>
   intro i hi
   obtain rfl:i=0:=by omega
   exact ⟨Rat.le_refl,Rat.le_refl⟩
 | succ k ih =>
   intro i hi
   have h1:=Hq' (Aw' f k).1 (Aw' f k).2 (f (k+1)).1 (f (k+1)).2
   have h2:=ED (Aw' f k).1 (Aw' f k).2 (f (k+1)).1 (f (k+1)).2
   rcases Nat.lt_or_ge i (k+1) with h | h
   · have h3:=ih i (by omega)
     exact ⟨Rat.le_trans h1.1 h3.1,Rat.le_trans h3.2 h2.2.1⟩
   · obtain rfl:i=k+1:=by omega
     exact ⟨h1.2.2.1,h2.2.2.2⟩
def As' (a b:Rat) (n:Nat) (l:List Rat) (i:Nat):Rat × Rat:=AV (Az a b n i,Az a b n (i+1)) l
def Bl' (a b:Rat) (n:Nat) (l:List Rat):Rat × Rat:=Aw' (As' a b n l) (n - 1)
theorem ED' {a b:Rat} (hab:a≤b) (n:Nat) (l:List Rat) (i:Nat):(As' a b n l i).1≤(As' a b n l i).2:=Hs' (Ix hab (Nat.le_succ i)) l
open List renaming getElem?_toArray → lg, getElem?_cons_zero → lz, getElem?_cons_succ → ls, setIfInBounds_toArray → lt, set_cons_zero → ly, set_cons_succ → lu
attribute [local go_sem] Oper.semAt_some
open Rf (AG' A7')
theorem C8' {X Y:World} {v:Value} {z:Nat} (h:∀ p v,X.cell? p=some v→Y.cell? p=some v) (hs:X.heap.size≤Y.heap.size) (hz:Nt X v z):Nt Y v z:=by
 obtain ⟨A,c,h1,h2,h3,h4,h5⟩:=hz
 refine ⟨A,c,h1,h2,h3,h4,fun hx=>?_⟩
 obtain ⟨b,o,h6,h7,h8⟩:=h5 hx
 exact ⟨b,o,h6,ltl h7 hs,fun j hj=>h _ _ (h8 j hj)⟩
theorem EE {X Y:World} {v:Value} {p q:Rat} (h:∀ p v,X.cell? p=some v→Y.cell? p=some v) (hs:X.heap.size≤Y.heap.size) (hb:Ao' X v p q):Ao' Y v p q:=by
 obtain ⟨v1,v2,v3,v4,e,h1,h2,h3,h4⟩:=hb
 exact ⟨v1,v2,v3,v4,e,C8' h hs h1,C8' h hs h2,C8' h hs h3,C8' h hs h4⟩
theorem DG {X Y:World} {row:Option Nat} (hg:X.grownBy Y row) (hr:∀ r,row=some r→∃ o:Obj,X.heap[r]?=some o∧o.isCells=false):∀ p v,X.cell? p=some v→Y.cell? p=some v:=by
 intro p v hv
 refine hg.cell hv fun e=>?_
 obtain ⟨o,ho,hc⟩:=hr _ e.symm
 have:=D6' hv ho
 rw [hc] at this
 cases this
theorem Do {X Y:World} {row:Option Nat} {b:Nat} {cs:Array Value} {T:TypeId} (hg:X.grownBy Y row) (hr:∀ r,row=some r→∃ o:Obj,X.heap[r]?=some o∧o.isCells=false) (h:X.heap[b]?=some (.cells cs T (0,0))):Y.heap[b]?=some (.cells cs T (0,0)):=by
 refine (hg.block b (at_lt h) fun e=>?_).trans h
 obtain ⟨o,ho,hc⟩:=hr _ e.symm
 rw [h] at ho
 obtain rfl:=Option.some.inj ho
 cases hc
def C9' (w:World) (A:Option Addr) (n:Nat) (vals:Nat→Value) (cf:Nat→Rat):Prop:=CQ w A n vals∧∀ j,j<n→Ac' w (vals j) (cf j)
def BK' (p:Rat × Rat) (cf:Nat→Rat) (js:List Nat):Rat × Rat:=js.foldl (fun v j=>Bs' v p (cf j)) (0,0)
theorem Gw' (p:Rat × Rat) (l:List Rat) (cf:Nat→Rat) (h:∀ j,j<l.length→l[j]?=some (cf j)):BK' p cf (List.range l.length).reverse=AV p l:=by
 have e:l=(List.range l.length).map cf:=by
   apply List.ext_getElem?
   intro i
   rw [List.getElem?_map]
   rcases Nat.lt_or_ge i l.length with hi | hi
   · rw [h i hi,List.getElem?_range hi];rfl
   · rw [List.getElem?_eq_none hi,List.getElem?_eq_none (by simpa using hi)];rfl
 unfold BK' AV
 conv=>rhs;rw [e]
 rw [List.foldl_reverse,List.foldr_map]
theorem Fq' {v p:Rat × Rat} {c:Rat} {N M:Nat} (h1:Aa' v.1≤N) (h2:Aa' v.2≤N) (h3:Aa' p.1≤M) (h4:Aa' p.2≤M) (h5:Aa' c≤M):Aa' (Bs' v p c).1≤N+M+M+1∧Aa' (Bs' v p c).2≤N+M+M+1:=by
 have k1:=AG v.1 p.1
 have k2:=AG v.1 p.2
 have k3:=AG v.2 p.1
 have k4:=AG v.2 p.2
 have hm:∀ y∈[v.1*p.2,v.2*p.1,v.2*p.2],Aa' y≤N+M:=by
   intro y hy
   simp only [List.mem_cons,List.not_mem_nil,or_false] at hy
   rcases hy with rfl | rfl | rfl <;> omega
 have i1:=Bt' (x:=v.1*p.1) (l:=[v.1*p.2,v.2*p.1,v.2*p.2]) (N:=N+M) (by omega) hm 3
 have i2:=A6' (x:=v.1*p.1) (l:=[v.1*p.2,v.2*p.1,v.2*p.2]) (N:=N+M) (by omega) hm 3
 have e1:=Ct' (leastOf (v.1*p.1) [v.1*p.2,v.2*p.1,v.2*p.2]) c
 have e2:=Ct' (greatestOf (v.1*p.1) [v.1*p.2,v.2*p.1,v.2*p.2]) c
 simp only [List.take_succ_cons,List.take_zero] at i1 i2
 unfold Bs'
 constructor <;> dsimp only <;> omega
theorem Ix' {p:Rat × Rat} {cf:Nat→Rat} {n M:Nat} (h3:Aa' p.1≤M) (h4:Aa' p.2≤M) (hc:∀ j,j<n→Aa' (cf j)≤M) (js:List Nat) (hj:∀ j∈js,j<n):Aa' (BK' p cf js).1≤3+js.length*(M+M+1)∧Aa' (BK' p cf js).2≤3+js.length*(M+M+1):=by
 have hg:∀ (js:List Nat) (v:Rat × Rat) (N:Nat),(∀ j∈js,j<n)→Aa' v.1≤N→Aa' v.2≤N→Aa' (js.foldl (fun v j=>Bs' v p (cf j)) v).1≤N+js.length*(M+M+1)∧Aa' (js.foldl (fun v j=>Bs' v p (cf j)) v).2≤N+js.length*(M+M+1):=by
   intro js
   induction js with
   | nil=>intro v N _ h1 h2;exact ⟨by simpa using h1,by simpa using h2⟩
   | cons j js ih =>
     intro v N hj h1 h2
     obtain ⟨k1,k2⟩:=Fq' h1 h2 h3 h4 (hc j (hj j (by simp)))
     obtain ⟨i1,i2⟩:=ih (Bs' v p (cf j)) _ (fun x hx=>hj x (by simp [hx])) k1 k2
     simp only [List.length_cons,List.foldl_cons,Nat.succ_mul]
     omega
 exact hg js (0,0) 3 hj (by decide +kernel) (by decide +kernel)
theorem Jp {w u:World} {o:Obj} (h:u=w.alloc o):u.heap[w.heap.size]?=some o:=h ▸ hA_ w o
theorem Jp' {w u:World} {o:Obj} (h:u=w.alloc o):Below w.heap.size w u:=h ▸ (Below.refl _ _).alloc (nL _) _
theorem Jq {w:World} {v u:Value} {a b c d x y:Rat} (hx:leastOf (a*c) [a*d,b*c,b*d]=x) (hy:greatestOf (a*c) [a*d,b*c,b*d]=y) (hv:Ao' w v a b) (hu:Ao' w u c d) (hs1:Aa' a≤1073741824) (hs2:Aa' b≤1073741824) (hs3:Aa' c≤1073741824) (hs4:Aa' d≤1073741824) :
   Calls Tryz.prog 23 #[v,u] w (Bk' w x y):=by
 rw [←hx,←hy]
 exact D2' hv hu hs1 hs2 hs3 hs4
theorem Jq' {w:World} {v0 v1:Value} {a b c d x y:Rat} (hx:a+c=x) (hy:b+d=y) (hv:Ao' w v0 a b) (hu:Ao' w v1 c d) (sa:Aa' a≤34359738368) (sb:Aa' b≤34359738368) (sc:Aa' c≤34359738368) (sd:Aa' d≤34359738368) :
   Calls Tryz.prog 84 #[v0,v1] w (Bk' w x y):=by
 rw [←hx,←hy]
 exact Gu' hv hu sa sb sc sd
def Do' (w w2:World) (b5:Nat) (p:Rat × Rat) (cf:Nat→Rat) {n:Nat} (pre:List (Fin n)) (W:World):Prop :=
  (∃ s1 A1 n1 c1 A2 n2 c2 s2 A3 n3 c3 A4 n4 c4,W.heap[b5]?=some (.cells #[.bool s1,.slice A1 n1 c1,.slice A2 n2 c2,.bool s2,.slice A3 n3 c3,.slice A4 n4 c4] 35 (0,0)) ∧
    Ao' W (.agg #[.bool s1,.slice A1 n1 c1,.slice A2 n2 c2,.bool s2,.slice A3 n3 c3,.slice A4 n4 c4]) (BK' p cf (pre.map (·.1))).1 (BK' p cf (pre.map (·.1))).2)∧AP b5 w2 W∧Below w.heap.size w W
theorem D7' {w w2:World} {b5:Nat} {p:Rat × Rat} {cf:Nat→Rat} {n:Nat} (hw:w.heap.size≤w2.heap.size):OwnFrom w2.heap.size (fun (pre:List (Fin n)) W=>Do' w w2 b5 p cf pre W):=by
 rintro pre X Y row ⟨⟨s1,A1,n1,c1,A2,n2,c2,s2,A3,n3,c3,A4,n4,c4,h1,h2⟩,h3,h4⟩ hg hr
 have hr':=fun r e=>(hr r e).2
 exact ⟨⟨_,_,_,_,_,_,_,_,_,_,_,_,_,_,Do hg hr' h1,EE (DG hg hr') hg.size h2⟩,h3.trans (AP.grown hg hr'),Below.grown h4 hg h4.size (fun k e=>nT hw (hr k e).1)⟩
theorem Gx {w:World} {A:Option Addr} {n cap:Nat} {vals:Nat→Value} {cf:Nat→Rat} {vb:Value} {p q:Rat} {l:List Rat} {x y:Rat} (hl:C9' w A n vals cf) (hb:Ao' w vb p q) (eL:l.length=n) (hcf:∀ j,j<n→l[j]?=some (cf j)) (ex:(AV (p,q) l).1=x) (ey:(AV (p,q) l).2=y) (hn:n≤200) (sp:Aa' p≤100000) (sq:Aa' q≤100000) (sc:∀ j,j<n→Aa' (cf j)≤100000) :
   Calls Tryz.prog 31 #[.slice A n cap,vb] w (Bk' w x y):=by
 have hfin:BK' (p,q) cf (List.range n).reverse=(x,y):=by rw [←eL,Gw' (p,q) l cf (by rw [eL];exact hcf),←ex,←ey]
 have HS:=hid (fun js hj=>Ix' (p:=(p,q)) (n:=n) (M:=100000) sp sq sc js hj)
 clear hcf ex ey eL
 replace hfin:=hid hfin
 replace sc:=hid sc
 replace sp:=hid sp
 replace sq:=hid sq
 obtain ⟨P1,r1,P2,r2,P3,r3,P4,r4,rfl,-,-⟩:=id hb.opened
 replace hb:=hid hb
 replace hl:=hid hl
 obtain ⟨w1,hw1⟩:=eX (((w.alloc (.cells #[.bool (decide (p.num<0)),.slice P1 (len p.num.natAbs) r1,.slice P2 (len (below p.den)) r2,.bool (decide (q.num<0)),.slice P3 (len q.num.natAbs) r3,.slice P4 (len (below q.den)) r4] 35)).alloc (.cells #[.bool false,.slice none 0 0,.slice none 0 0,.bool false,.slice none 0 0,.slice none 0 0] 35)).alloc (.cells #[.bool false,.slice none 0 0,.slice none 0 0,.bool false,.slice none 0 0,.slice none 0 0] 35))
 obtain ⟨b1,g1,g2,g3⟩:=AK' hw1
 have hs1:w1.heap.size=w.heap.size+3:=by rw [hw1,World.size_alloc,World.size_alloc,World.size_alloc]
 replace hs1:=hid hs1
 replace b1:=hid b1
 replace g1:=hid g1
 replace g2:=hid g2
 replace g3:=hid g3
 refine (callsIn_wide (n:=6)).1 ?_
 refine callsIn_of_wp_marks Tryz.func31 rfl trivial ?_ rfl
 refine wpIn_wide.2 ?_
 simp only [Tryz.ntmps31,List.size_toArray,List.length_cons,List.length_nil,Nat.reduceAdd,Nat.reduceSub,Array.replicate_succ,Array.replicate_zero,List.push_toArray,List.append_toArray,List.nil_append,List.cons_append]
 go_upto_region 2 with fail
 rw [←hw1]
 clear hw1
 have HX:=hid (Fp' (w:=w1) (A:=A) (n:=n) (cap:=cap))
 go_wp2_with fail
 refine (HX.out).mono ?_
 clear HX
 obtain ⟨w2,hw2⟩:=eX (w1.alloc (.cells #[.slice A n cap] 26))
 have b2:=hid (Jp' hw2)
 have g4:=Jp hw2
 rw [hs1.out] at g4
 rintro e w3 ⟨rfl,h3⟩
 rw [←hw2] at h3
 subst h3
 rw [hs1.out]
 replace g4:=hid g4
 clear hw2
 go_wp2_with fail
 rename_i KK hKK
 replace hKK:=hid hKK
 have G1:=hid (Ad' g1.out b2.out)
 have G2:=hid (Ad' g2.out b2.out)
 have G3:=hid (Ad' g3.out b2.out)
 have hB:=hid (chain b1.out b2.out)
 have hs3:=at_lt g4.out
 have hv3:=hid (hl.out.1.keep hB.out)
 have hlt:=hid (show 0<n→∀ b o,A=some ⟨b,o,none⟩→b<w.heap.size from fun h0 b o e=>by obtain ⟨b',o',_,_,_,_,_,_,_,e',_,z,_⟩:=hl.out.1 0 h0;rw [e] at e';obtain rfl:=congrArg Addr.block (Option.some.inj e');exact bL w _ z)
 obtain ⟨b5,hb5⟩:=eY (w.heap.size+1+1)
 obtain ⟨b6,hb6⟩:=eY (w.heap.size+3)
 have G3':Hid (w3.heap[b5]?=_):=hb5 ▸ G3
 have G4:Hid (w3.heap[b6]?=_):=hb6 ▸ g4
 have lt5:w.heap.size+1<b5:=by omega
 have lt6:b5<b6:=by omega
 have hs4:b6<w3.heap.size:=by rw [←hb6];exact hs3
 clear g1 g2 g3 g4 G3 hs3 hs1 b1 b2
 rw [hb5,hb6]
 clear hb5 hb6
 replace hKK:=hid hKK.out
 have I0:Do' w w3 b5 (p,q) cf ([]:List (Fin n)) w3:=⟨⟨_,_,_,_,_,_,_,_,_,_,_,_,_,_,G3'.out,⟨_,_,_,_,rfl,Nt.zero _,Nt.zero _,Nt.zero _,Nt.zero _⟩⟩,AP.refl _ _,hB.out⟩
 refine (wpIn_wide (n:=6)).1 ?_
 refine wpIn_rangeFunc_ownH (F:=Fence.wide) (n:=6) (w0:=w3) rfl (by omega) (gf:=128) (lb:=#[.pointer (some ⟨b6,0,none⟩)]) rfl trivial (enters_of Tryz.func128 (by kernel_rfl) rfl)
   (Em (m:=5) (B5:=b5) (A:=A) (n:=n) (cap:=cap) (vals:=vals) (w:=w3) (by omega) (by omega) (by omega) (fun h0 b o e=>by have:=hlt.out h0 b o e;omega) (cR _ _ _ _ _ _ G4.out) hv3.out) (fun h k=>h.trans k)
   (fun W l o o' _ h1 h2 _=>AP.grown (grownBy_putObj' W l o') (fun r e=>by cases e;exact ⟨_,h1,h2⟩)) (Below.refl _ _) (fun _=>rfl)
   (fun (pre:List (Fin n)) W=>Do' w w3 b5 (p,q) cf pre W) (fun _ _ _=>False) (D7' hB.out.size) (fun _ _ _ _ _ h _ _=>h) I0 (fun (x:Fin n) (a':Act) (W:World)=>∃ (Bx:Nat) (s5:Bool) (A5:Option Addr) (n5 c5:Nat) (A6:Option Addr) (n6 c6:Nat),vals x.1=.agg #[.bool s5,.slice A5 n5 c5,.slice A6 n6 c6]∧Bx≠b5∧W.heap[Bx]?=some (.cells #[.bool s5,.slice A5 n5 c5,.slice A6 n6 c6] 33 (0,0))∧a'={ tmps:=#[.slice A n cap,.agg #[.bool (decide (p.num<0)),.slice P1 (len p.num.natAbs) r1,.slice P2 (len (below p.den)) r2,.bool (decide (q.num<0)),.slice P3 (len q.num.natAbs) r3,.slice P4 (len (below q.den)) r4],undef,.pointer (some ⟨w.heap.size,0,none⟩),.pointer (some ⟨w.heap.size+1,0,none⟩),.pointer (some ⟨b5,0,none⟩),.pointer (some ⟨Bx,0,none⟩),.slice A n cap,.func (.func 128) #[] #[.pointer (some ⟨b6,0,none⟩)],.agg #[.bool s5,.slice A5 n5 c5,.slice A6 n6 c6],undef,undef,undef,undef,undef,undef,undef],defers:=[] }) ?hAx ?assign ?body ?done ?stop
 case hAx =>
   rintro x a' ⟨⟩ X Y row ⟨Bx,s5,A5,n5,c5,A6,n6,c6,h1,h2,h3,h4⟩ hg hr
   exact ⟨Bx,s5,A5,n5,c5,A6,n6,c6,h1,h2,Do hg (fun r e=>(hr r e).2) h3,h4⟩
 case stop =>
   intro D c pre W _ _ h _
   exact h.elim
 case assign =>
   intro l' pre x W K hI hK
   obtain ⟨b,o,s5,A5,n5,c5,A6,n6,c6,-,hv,-,-,-⟩:=hv3.out x.1 x.2
   rw [hv]
   have hv2:=hid hv
   have hK2:=hid hK
   have hI2:=hid hI
   clear hv hK hI
   gi_wp2
   have lt9:b5<W.heap.size:=by obtain ⟨⟨_,_,_,_,_,_,_,_,_,_,_,_,_,_,g,_⟩,_⟩:=hI2.out;exact at_lt g
   exact hK2.out _ _ ((KeepsOthers.alloc _ _).from _) (AP.of_below ((Below.refl _ _).alloc (nL _) _)) ((D7' hB.out.size).alloc _ hI2.out) ⟨W.heap.size,s5,A5,n5,c5,A6,n6,c6,hv2.out,by omega,hA_ _ _,rfl⟩
 case body =>
   rintro l' pre x a' W hl' - hI ⟨Bx,s5,A5,n5,c5,A6,n6,c6,hv,hne,hBx,rfl⟩ hlt'
   obtain ⟨⟨s1,A1,n1,c1,A2,n2,c2,s2,A3,n3,c3,A4,n4,c4,g5,hacc⟩,hKC,hBW⟩:=hI
   obtain ⟨k1,k2⟩:=HS.out (pre.map (·.1)) (by intro j hj;obtain ⟨z,-,rfl⟩:=List.mem_map.1 hj;exact z.2)
   have hln:(pre.map (·.1)).length≤200:=by rw [List.length_map];omega
   have hln2:=Nat.mul_le_mul_right (100000+100000+1) hln
   obtain ⟨m,hm⟩:=eY ((BK' (p,q) cf (pre.map (·.1))).1)
   obtain ⟨M,hM⟩:=eY ((BK' (p,q) cf (pre.map (·.1))).2)
   obtain ⟨c,hc⟩:=eY (cf x.1)
   rw [hm,hM] at hacc
   rw [hm] at k1
   rw [hM] at k2
   have tm:Aa' m≤40000203:=by omega
   have tM:Aa' M≤40000203:=by omega
   have tc:Aa' c≤100000:=by rw [←hc];exact sc.out _ x.2
   have hcf:Ac' W (.agg #[.bool s5,.slice A5 n5 c5,.slice A6 n6 c6]) c:=by rw [←hv,←hc];exact (hl.out.2 _ x.2).keep hBW
   have hpq:=hb.out.keep hBW
   obtain ⟨u1,e_u1⟩:=eY (leastOf (m*p) [m*q,M*p,M*q])
   obtain ⟨u2,e_u2⟩:=eY (greatestOf (m*p) [m*q,M*p,M*q])
   have hsz:∀ z∈[m*q,M*p,M*q],Aa' z≤40100203:=by
     have i1:=AG m q
     have i2:=AG M p
     have i3:=AG M q
     have j1:=sp.out
     have j2:=sq.out
     intro z hz
     simp only [List.mem_cons,List.not_mem_nil,or_false] at hz
     rcases hz with rfl | rfl | rfl <;> omega
   have hs0:Aa' (m*p)≤40100203:=by have i1:=AG m p;have j1:=sp.out;omega
   have tu1:Aa' u1≤34359738368:=by have:=Bt' hs0 hsz 3;simp only [List.take_succ_cons,List.take_zero] at this;rw [e_u1] at this;omega
   have tu2:Aa' u2≤34359738368:=by have:=A6' hs0 hsz 3;simp only [List.take_succ_cons,List.take_zero] at this;rw [e_u2] at this;omega
   obtain ⟨m2,e_m2⟩:=eY (u1+c)
   obtain ⟨M2,e_M2⟩:=eY (u2+c)
   have hst:BK' (p,q) cf ((pre++[x]).map (·.1))=(m2,M2):=by
     rw [List.map_append]
     show List.foldl _ _ _=_
     rw [List.foldl_append]
     show Bs' (BK' (p,q) cf (pre.map (·.1))) (p,q) (cf x.1)=_
     unfold Bs'
     rw [hm,hM,hc,e_u1,e_u2,e_m2,e_M2]
   have r3:=Ae' G1.out
   have y0:=hKC.cell (p:=⟨w.heap.size,0,none⟩) (by show w.heap.size≠b5;omega) r3.1
   have y1:=hKC.cell (p:=⟨w.heap.size,1,none⟩) (by show w.heap.size≠b5;omega) r3.2.1
   have y2:=hKC.cell (p:=⟨w.heap.size,2,none⟩) (by show w.heap.size≠b5;omega) r3.2.2.1
   have y3:=hKC.cell (p:=⟨w.heap.size,3,none⟩) (by show w.heap.size≠b5;omega) r3.2.2.2.1
   have y4:=hKC.cell (p:=⟨w.heap.size,4,none⟩) (by show w.heap.size≠b5;omega) r3.2.2.2.2.1
   have y5:=hKC.cell (p:=⟨w.heap.size,5,none⟩) (by show w.heap.size≠b5;omega) r3.2.2.2.2.2
   obtain ⟨z0,z1,z2,z3,z4,z5⟩:=Ae' g5
   obtain ⟨x0,x1,x2⟩:=Ab' hBx
   have hBl:b5<W.heap.size:=at_lt g5
   have hXl:Bx<W.heap.size:=at_lt hBx
   have hwl:w.heap.size<W.heap.size:=bL _ _ y0
   have tm':Aa' m≤1073741824:=by omega
   have tM':Aa' M≤1073741824:=by omega
   have tp':Aa' p≤1073741824:=nT sp.out (by omega)
   have tq':Aa' q≤1073741824:=nT sq.out (by omega)
   have tc':Aa' c≤34359738368:=by omega
   have tc2:Aa' c≤1099511627776:=by omega
   clear r3 hsz hs0 k1 k2 hln hln2 tm tM tc hm hM hc hv hlt'
   replace hacc:=hid hacc
   replace hpq:=hid hpq
   replace hcf:=hid hcf
   replace g5:=hid g5
   replace hBx:=hid hBx
   replace hKC:=hid hKC
   replace hBW:=hid hBW
   replace hst:=hid hst
   replace e_u1:=hid e_u1
   replace e_u2:=hid e_u2
   replace e_m2:=hid e_m2
   replace e_M2:=hid e_M2
   have hq:Hid (¬ LetsOut (Exit.inBlock 1 (ownPostG w3.heap.size (AP b5) (fun (pre:List (Fin n)) W=>Do' w w3 b5 (p,q) cf pre W) (fun _ _ _=>False) (pre++[x]) W))):=hid (by rintro ⟨a,w,h⟩;exact h)
   refine wpIn_block ?_
   refine Dx' (s:=6) (S:=(fun w'=>(w'.cell? ⟨b5,0,none⟩=W.cell? ⟨b5,0,none⟩∧w'.cell? ⟨b5,1,none⟩=W.cell? ⟨b5,1,none⟩∧w'.cell? ⟨b5,2,none⟩=W.cell? ⟨b5,2,none⟩∧w'.cell? ⟨b5,3,none⟩=W.cell? ⟨b5,3,none⟩∧w'.cell? ⟨b5,4,none⟩=W.cell? ⟨b5,4,none⟩∧w'.cell? ⟨b5,5,none⟩=W.cell? ⟨b5,5,none⟩∧w'.cell? ⟨w.heap.size,0,none⟩=W.cell? ⟨w.heap.size,0,none⟩∧w'.cell? ⟨w.heap.size,1,none⟩=W.cell? ⟨w.heap.size,1,none⟩∧w'.cell? ⟨w.heap.size,2,none⟩=W.cell? ⟨w.heap.size,2,none⟩∧w'.cell? ⟨w.heap.size,3,none⟩=W.cell? ⟨w.heap.size,3,none⟩∧w'.cell? ⟨w.heap.size,4,none⟩=W.cell? ⟨w.heap.size,4,none⟩∧w'.cell? ⟨w.heap.size,5,none⟩=W.cell? ⟨w.heap.size,5,none⟩∧w'.cell? ⟨Bx,0,none⟩=W.cell? ⟨Bx,0,none⟩∧w'.cell? ⟨Bx,1,none⟩=W.cell? ⟨Bx,1,none⟩∧w'.cell? ⟨Bx,2,none⟩=W.cell? ⟨Bx,2,none⟩))) (by kernel_rfl) (by kernel_rfl) hq.out (by rfl) (by rfl) (by kernel_rfl) ?_
   simp only [Rf.Cg',lt,ly,lu]
   have hHeld:(fun w'=>(w'.cell? ⟨b5,0,none⟩=W.cell? ⟨b5,0,none⟩∧w'.cell? ⟨b5,1,none⟩=W.cell? ⟨b5,1,none⟩∧w'.cell? ⟨b5,2,none⟩=W.cell? ⟨b5,2,none⟩∧w'.cell? ⟨b5,3,none⟩=W.cell? ⟨b5,3,none⟩∧w'.cell? ⟨b5,4,none⟩=W.cell? ⟨b5,4,none⟩∧w'.cell? ⟨b5,5,none⟩=W.cell? ⟨b5,5,none⟩∧w'.cell? ⟨w.heap.size,0,none⟩=W.cell? ⟨w.heap.size,0,none⟩∧w'.cell? ⟨w.heap.size,1,none⟩=W.cell? ⟨w.heap.size,1,none⟩∧w'.cell? ⟨w.heap.size,2,none⟩=W.cell? ⟨w.heap.size,2,none⟩∧w'.cell? ⟨w.heap.size,3,none⟩=W.cell? ⟨w.heap.size,3,none⟩∧w'.cell? ⟨w.heap.size,4,none⟩=W.cell? ⟨w.heap.size,4,none⟩∧w'.cell? ⟨w.heap.size,5,none⟩=W.cell? ⟨w.heap.size,5,none⟩∧w'.cell? ⟨Bx,0,none⟩=W.cell? ⟨Bx,0,none⟩∧w'.cell? ⟨Bx,1,none⟩=W.cell? ⟨Bx,1,none⟩∧w'.cell? ⟨Bx,2,none⟩=W.cell? ⟨Bx,2,none⟩)) W:=⟨rfl,rfl,rfl,rfl,rfl,rfl,rfl,rfl,rfl,rfl,rfl,rfl,rfl,rfl,rfl⟩
   obtain ⟨w91,hw91⟩:=eX W.drew
   have b91:Hid (Below W.heap.size W w91):=hid (by rw [hw91];exact ⟨rfl,rfl,rfl,nL _,fun _ _=>rfl⟩)
   replace hHeld:(fun w'=>(w'.cell? ⟨b5,0,none⟩=W.cell? ⟨b5,0,none⟩∧w'.cell? ⟨b5,1,none⟩=W.cell? ⟨b5,1,none⟩∧w'.cell? ⟨b5,2,none⟩=W.cell? ⟨b5,2,none⟩∧w'.cell? ⟨b5,3,none⟩=W.cell? ⟨b5,3,none⟩∧w'.cell? ⟨b5,4,none⟩=W.cell? ⟨b5,4,none⟩∧w'.cell? ⟨b5,5,none⟩=W.cell? ⟨b5,5,none⟩∧w'.cell? ⟨w.heap.size,0,none⟩=W.cell? ⟨w.heap.size,0,none⟩∧w'.cell? ⟨w.heap.size,1,none⟩=W.cell? ⟨w.heap.size,1,none⟩∧w'.cell? ⟨w.heap.size,2,none⟩=W.cell? ⟨w.heap.size,2,none⟩∧w'.cell? ⟨w.heap.size,3,none⟩=W.cell? ⟨w.heap.size,3,none⟩∧w'.cell? ⟨w.heap.size,4,none⟩=W.cell? ⟨w.heap.size,4,none⟩∧w'.cell? ⟨w.heap.size,5,none⟩=W.cell? ⟨w.heap.size,5,none⟩∧w'.cell? ⟨Bx,0,none⟩=W.cell? ⟨Bx,0,none⟩∧w'.cell? ⟨Bx,1,none⟩=W.cell? ⟨Bx,1,none⟩∧w'.cell? ⟨Bx,2,none⟩=W.cell? ⟨Bx,2,none⟩)) w91:=by rw [hw91];exact hHeld
   rw [←hw91]
   clear hw91
   refine tk (i:=0) (h:=?_)
   try simp only [Act.put,lt,ly,lu]
   refine tk (i:=1) (h:=?_)
   try simp only [Act.put,lt,ly,lu]
   refine tk (i:=3) (h:=?_)
   try simp only [Act.put,lt,ly,lu]
   refine rd (i:=2) (h:=fun K hK=>?_);go_simp;go_at_call 23
   refine (Jq e_u1.out e_u2.out (hacc.out.keep b91.out) (hpq.out.keep b91.out) tm' tM' tp' tq').mono ?_
   rintro e w92 ⟨v92,rfl,hv92,b92⟩
   obtain ⟨C31,j31,C32,j32,C33,j33,C34,j34,rfl,-,-,-,-⟩:=id hv92.opened
   replace hv92:=hid hv92
   replace b92:=hid b92
   have y90_92:=hid (bS b91.out b92.out)
   have hS:=y90_92.out
   clear hHeld
   refine hK.out _ _ ?_ (fun hHeld=>?_)
   · (try dsimp only)
     exact ⟨hS.cell (p:=⟨b5,0,none⟩) hBl,hS.cell (p:=⟨b5,1,none⟩) hBl,hS.cell (p:=⟨b5,2,none⟩) hBl,hS.cell (p:=⟨b5,3,none⟩) hBl,hS.cell (p:=⟨b5,4,none⟩) hBl,hS.cell (p:=⟨b5,5,none⟩) hBl,hS.cell (p:=⟨w.heap.size,0,none⟩) hwl,hS.cell (p:=⟨w.heap.size,1,none⟩) hwl,hS.cell (p:=⟨w.heap.size,2,none⟩) hwl,hS.cell (p:=⟨w.heap.size,3,none⟩) hwl,hS.cell (p:=⟨w.heap.size,4,none⟩) hwl,hS.cell (p:=⟨w.heap.size,5,none⟩) hwl,hS.cell (p:=⟨Bx,0,none⟩) hXl,hS.cell (p:=⟨Bx,1,none⟩) hXl,hS.cell (p:=⟨Bx,2,none⟩) hXl⟩
   clear hK K hS;try simp only [Act.put,lt,ly,lu]
   refine rd (i:=4) (h:=fun K hK=>?_);go_simp;go_at_call 18
   refine (Ex' (hcf.out.keep y90_92.out) tc2).mono ?_
   rintro e w93 ⟨v93,rfl,hv93,b93⟩
   obtain ⟨C35,j35,C36,j36,C37,j37,C38,j38,rfl,-,-,-,-⟩:=id hv93.opened
   replace hv93:=hid hv93
   replace b93:=hid b93
   have y90_93:=hid (bS y90_92.out b93.out)
   have hS:=y90_93.out
   clear hHeld
   refine hK.out _ _ ?_ (fun hHeld=>?_)
   · (try dsimp only)
     exact ⟨hS.cell (p:=⟨b5,0,none⟩) hBl,hS.cell (p:=⟨b5,1,none⟩) hBl,hS.cell (p:=⟨b5,2,none⟩) hBl,hS.cell (p:=⟨b5,3,none⟩) hBl,hS.cell (p:=⟨b5,4,none⟩) hBl,hS.cell (p:=⟨b5,5,none⟩) hBl,hS.cell (p:=⟨w.heap.size,0,none⟩) hwl,hS.cell (p:=⟨w.heap.size,1,none⟩) hwl,hS.cell (p:=⟨w.heap.size,2,none⟩) hwl,hS.cell (p:=⟨w.heap.size,3,none⟩) hwl,hS.cell (p:=⟨w.heap.size,4,none⟩) hwl,hS.cell (p:=⟨w.heap.size,5,none⟩) hwl,hS.cell (p:=⟨Bx,0,none⟩) hXl,hS.cell (p:=⟨Bx,1,none⟩) hXl,hS.cell (p:=⟨Bx,2,none⟩) hXl⟩
   clear hK K hS;try simp only [Act.put,lt,ly,lu]
   refine rd (i:=5) (h:=fun K hK=>?_);go_simp;go_at_call 84
   refine (Jq' e_m2.out e_M2.out (hv92.out.keep b93.out) hv93.out tu1 tu2 tc' tc').mono ?_
   rintro e w94 ⟨v94,rfl,hv94,b94⟩
   obtain ⟨C39,j39,C40,j40,C41,j41,C42,j42,rfl,-,-,-,-⟩:=id hv94.opened
   replace hv94:=hid hv94
   replace b94:=hid b94
   have y90_94:=hid (bS y90_93.out b94.out)
   have hS:=y90_94.out
   clear hHeld
   refine hK.out _ _ ?_ (fun hHeld=>?_)
   · (try dsimp only)
     exact ⟨hS.cell (p:=⟨b5,0,none⟩) hBl,hS.cell (p:=⟨b5,1,none⟩) hBl,hS.cell (p:=⟨b5,2,none⟩) hBl,hS.cell (p:=⟨b5,3,none⟩) hBl,hS.cell (p:=⟨b5,4,none⟩) hBl,hS.cell (p:=⟨b5,5,none⟩) hBl,hS.cell (p:=⟨w.heap.size,0,none⟩) hwl,hS.cell (p:=⟨w.heap.size,1,none⟩) hwl,hS.cell (p:=⟨w.heap.size,2,none⟩) hwl,hS.cell (p:=⟨w.heap.size,3,none⟩) hwl,hS.cell (p:=⟨w.heap.size,4,none⟩) hwl,hS.cell (p:=⟨w.heap.size,5,none⟩) hwl,hS.cell (p:=⟨Bx,0,none⟩) hXl,hS.cell (p:=⟨Bx,1,none⟩) hXl,hS.cell (p:=⟨Bx,2,none⟩) hXl⟩
   clear hK K hS;try simp only [Act.put,lt,ly,lu]
   refine tk (i:=6) (h:=?_)
   try simp only [Act.put,lt,ly,lu]
   refine wpAnyH_done (by kernel_rfl) ?_ _
   clear hHeld y0 z0 y1 z1 y2 z2 y3 z3 y4 z4 y5 z5 x0 x1 x2
   have DB:=Ad' g5.out y90_94.out
   have q0:=cR _ _ 0 _ _ _ DB
   have F0:=fR w94 b5 0 _ _ DB
   have q1:=cR _ _ 1 _ _ _ DB
   have F1:=fR w94 b5 1 _ _ DB
   have q2:=cR _ _ 2 _ _ _ DB
   have F2:=fR w94 b5 2 _ _ DB
   have q3:=cR _ _ 3 _ _ _ DB
   have F3:=fR w94 b5 3 _ _ DB
   have q4:=cR _ _ 4 _ _ _ DB
   have F4:=fR w94 b5 4 _ _ DB
   have q5:=cR _ _ 5 _ _ _ DB
   have F5:=fR w94 b5 5 _ _ DB
   simp only [lg,lz,ls] at q0 q1 q2 q3 q4 q5
   obtain ⟨ue,hw⟩:=eX (((((((w94.setCell ⟨b5,0,none⟩ (.bool (decide (m2.num<0)))).setCell ⟨b5,1,none⟩ (.slice C39 (Vx.len m2.num.natAbs) j39)).setCell ⟨b5,2,none⟩ (.slice C40 (Vx.len (below m2.den)) j40)).setCell ⟨b5,3,none⟩ (.bool (decide (M2.num<0)))).setCell ⟨b5,4,none⟩ (.slice C41 (Vx.len M2.num.natAbs) j41)).setCell ⟨b5,5,none⟩ (.slice C42 (Vx.len (below M2.den)) j42)))
   obtain ⟨E,OT,LV,BL⟩:=AG' DB hw
   have hsz:w94.heap.size≤ue.heap.size:=(BL 0 w94 (Nat.zero_le _) (Below.refl _ _)).size
   have FIN:Hid (KeepsFrom w3.heap.size W ue∧AP b5 W ue∧Do' w w3 b5 (p,q) cf (pre++[x]) ue):=hid ⟨(FG' y90_94.out).trans (Fo' hsz DB OT),(AP.of_below y90_94.out).trans (AP.stored hsz OT),
     ⟨_,_,_,_,_,_,_,_,_,_,_,_,_,_,E,by rw [hst.out];exact LV.box hv94.out⟩,hKC.out.trans ((AP.of_below y90_94.out).trans (AP.stored hsz OT)),BL _ _ (by omega) (chain hBW.out y90_94.out)⟩
   refine Rf.CP' (by rfl) (by rfl) ?_
   clear DB E OT LV BL hsz
   go_simp
   rw [←hw]
   exact FIN.out
 case done =>
   rintro D ys W hD hys ⟨⟨s1,A1,n1,c1,A2,n2,c2,s2,A3,n3,c3,A4,n4,c4,g5,hacc⟩,hKC,hBW⟩ hKD
   rw [hys,hfin.out] at hacc
   obtain ⟨z0,z1,z2,z3,z4,z5⟩:=Ae' g5
   have GR:W.heap[w.heap.size+1]?=_:=hKC.2 _ _ (by omega) G2.out rfl
   have q0:=cR _ _ 0 _ _ _ GR
   have F0:=fR W (w.heap.size+1) 0 _ _ GR
   have q1:=cR _ _ 1 _ _ _ GR
   have F1:=fR W (w.heap.size+1) 1 _ _ GR
   have q2:=cR _ _ 2 _ _ _ GR
   have F2:=fR W (w.heap.size+1) 2 _ _ GR
   have q3:=cR _ _ 3 _ _ _ GR
   have F3:=fR W (w.heap.size+1) 3 _ _ GR
   have q4:=cR _ _ 4 _ _ _ GR
   have F4:=fR W (w.heap.size+1) 4 _ _ GR
   have q5:=cR _ _ 5 _ _ _ GR
   have F5:=fR W (w.heap.size+1) 5 _ _ GR
   simp only [lg,lz,ls] at q0 q1 q2 q3 q4 q5
   obtain ⟨ue,hw⟩:=eX (((((((W.setCell ⟨(w.heap.size+1),0,none⟩ (.bool s1)).setCell ⟨(w.heap.size+1),1,none⟩ (.slice A1 n1 c1)).setCell ⟨(w.heap.size+1),2,none⟩ (.slice A2 n2 c2)).setCell ⟨(w.heap.size+1),3,none⟩ (.bool s2)).setCell ⟨(w.heap.size+1),4,none⟩ (.slice A3 n3 c3)).setCell ⟨(w.heap.size+1),5,none⟩ (.slice A4 n4 c4)))
   obtain ⟨E,OT,LV,BL⟩:=AG' GR hw
   have hKD2:Hid (ue.heap[D]?=some (.deferred (some []))):=hid (OT _ _ (by rintro rfl;rw [GR] at hKD;cases hKD) hKD)
   have FE:=hid (LV.box hacc)
   have FB:=hid (BL _ _ (Nat.le_succ _) hBW)
   replace E:=hid E
   replace hw:=hid hw
   have hD2:=hid (show w.heap.size≤D from nT hB.out.size hD)
   clear GR OT LV BL hacc hKC hBW hKD g5
   show KK _ _
   refine hKK.out _ _ ?_
   clear hKK
   go_wp2_with fail
   rw [←hw.out]
   refine ⟨by simp,.inl ⟨_,_,rfl,run_takeDeferred hKD2.out,?_⟩⟩
   obtain ⟨uf,huf⟩:=eX (ue.putObj D (.deferred none))
   have hg:ue.grownBy uf (some D):=huf ▸ grownBy_putObj' ue D _
   have hr:∀ r,some D=some r→∃ o:Obj,ue.heap[r]?=some o∧o.isCells=false:=fun r e=>by obtain rfl:=Option.some.inj e;exact ⟨_,hKD2.out,rfl⟩
   have E2:=Do hg hr E.out
   have FE2:=EE (DG hg hr) hg.size FE.out
   have FB2:=Below.grown FB.out hg FB.out.size (fun k e=>by obtain rfl:=Option.some.inj e;exact hD2.out)
   rw [←huf]
   obtain ⟨r0,r1,r2,r3,r4,r5⟩:=Ae' E2
   refine ⟨.agg #[.bool s1,.slice A1 n1 c1,.slice A2 n2 c2,.bool s2,.slice A3 n3 c3,.slice A4 n4 c4],?_,_,rfl,FE2,FB2⟩
   simp [results,Tryz.results31,go_sem,r0,r1,r2,r3,r4,r5]
open Rf (A7' AG' Ag')
theorem BY' {X Y:World} {B:Nat} {v:Value} {z:Nat} {cs:Array Value} {T:TypeId} {fr:Nat × Nat} (hs:X.heap.size≤Y.heap.size) (hb:X.heap[B]?=some (.cells cs T fr)) (hi:∀ (i:Nat) (k:IntKind) (m:Int),cs[i]?≠some (.int k m)) (h:∀ (n:Nat) (o:Obj),n≠B→X.heap[n]?=some o→Y.heap[n]?=some o) (hz:Nt X v z):Nt Y v z:=by
 obtain ⟨A,c,h1,h2,h3,h4,h5⟩:=hz
 refine ⟨A,c,h1,h2,h3,h4,fun hx=>?_⟩
 obtain ⟨b,o,h6,h7,h8⟩:=h5 hx
 have hne:b≠B:=by
   rintro rfl
   have h9:=h8 0 (Aj'.2 hx)
   rw [cR _ _ _ _ _ _ hb] at h9
   exact hi _ _ _ h9
 exact ⟨b,o,h6,ltl h7 hs,fun j hj=>(World.cell?_of_block (a:=⟨b,o+j,none⟩) ((h b _ hne (show X.heap[b]?=some X.heap[b] by simp [h7])).trans (show X.heap[b]?=some X.heap[b] by simp [h7]).symm)).trans (h8 j hj)⟩
theorem D8 {X Y:World} {B:Nat} {v:Value} {q:Rat} {cs:Array Value} {T:TypeId} {fr:Nat × Nat} (hs:X.heap.size≤Y.heap.size) (hb:X.heap[B]?=some (.cells cs T fr)) (hi:∀ (i:Nat) (k:IntKind) (m:Int),cs[i]?≠some (.int k m)) (h:∀ (n:Nat) (o:Obj),n≠B→X.heap[n]?=some o→Y.heap[n]?=some o) (hz:Ac' X v q):Ac' Y v q:=by
 obtain ⟨v1,v2,e,h1,h2⟩:=hz
 exact ⟨v1,v2,e,BY' hs hb hi h h1,BY' hs hb hi h h2⟩
theorem D8' {X Y:World} {B:Nat} {v:Value} {p q:Rat} {cs:Array Value} {T:TypeId} {fr:Nat × Nat} (hs:X.heap.size≤Y.heap.size) (hb:X.heap[B]?=some (.cells cs T fr)) (hi:∀ (i:Nat) (k:IntKind) (m:Int),cs[i]?≠some (.int k m)) (h:∀ (n:Nat) (o:Obj),n≠B→X.heap[n]?=some o→Y.heap[n]?=some o) (hz:Ao' X v p q):Ao' Y v p q:=by
 obtain ⟨v1,v2,v3,v4,e,h1,h2,h3,h4⟩:=hz
 exact ⟨v1,v2,v3,v4,e,BY' hs hb hi h h1,BY' hs hb hi h h2,BY' hs hb hi h h3,BY' hs hb hi h h4⟩
theorem Ht' {W W':World} {B u:Nat} {cs:Array Value} {T:TypeId} {v0 v1 v2 v3 v4 v5:Value} (h:W.heap[B]?=some (.cells cs T (0,0))) (hu:u+5<cs.size)
   (hw:W'=((((((W.setCell ⟨B,u,none⟩ v0).setCell ⟨B,u+1,none⟩ v1).setCell ⟨B,u+2,none⟩ v2).setCell ⟨B,u+3,none⟩ v3).setCell ⟨B,u+4,none⟩ v4).setCell ⟨B,u+5,none⟩ v5)) :
   ∃ cs',W'.heap[B]?=some (.cells cs' T (0,0))∧cs'.size=cs.size∧(∀ k,k<u∨u+5<k→cs'[k]?=cs[k]?)∧(cs'[u]?=some v0∧cs'[u+1]?=some v1∧cs'[u+2]?=some v2∧cs'[u+3]?=some v3∧cs'[u+4]?=some v4∧cs'[u+5]?=some v5) ∧
     (∀ (n:Nat) (o:Obj),n≠B→W.heap[n]?=some o→W'.heap[n]?=some o)∧W'.heap.size=W.heap.size∧(∀ (N:Nat) (wB:World),N≤B→Below N wB W→Below N wB W'):=by
 have g1:=heap_setCell_same W B u _ _ v0 h
 have g2:=heap_setCell_same _ B (u+1) _ _ v1 g1
 have g3:=heap_setCell_same _ B (u+2) _ _ v2 g2
 have g4:=heap_setCell_same _ B (u+3) _ _ v3 g3
 have g5:=heap_setCell_same _ B (u+4) _ _ v4 g4
 have g6:=heap_setCell_same _ B (u+5) _ _ v5 g5
 refine ⟨_,by rw [hw];exact g6,by simp,fun k hk=>?_,⟨?_,?_,?_,?_,?_,?_⟩,fun n o hne ho=>?_,by rw [hw];simp,fun N wB hN hB=>?_⟩
 · rw [Array.getElem?_setIfInBounds_ne (by omega),Array.getElem?_setIfInBounds_ne (by omega),Array.getElem?_setIfInBounds_ne (by omega),Array.getElem?_setIfInBounds_ne (by omega),Array.getElem?_setIfInBounds_ne (by omega),Array.getElem?_setIfInBounds_ne (by omega)]
 · rw [Array.getElem?_setIfInBounds_ne (by omega),Array.getElem?_setIfInBounds_ne (by omega),Array.getElem?_setIfInBounds_ne (by omega),Array.getElem?_setIfInBounds_ne (by omega),Array.getElem?_setIfInBounds_ne (by omega),Array.getElem?_setIfInBounds_self_of_lt (by (try simp only [Array.size_setIfInBounds]);omega)]
 · rw [Array.getElem?_setIfInBounds_ne (by omega),Array.getElem?_setIfInBounds_ne (by omega),Array.getElem?_setIfInBounds_ne (by omega),Array.getElem?_setIfInBounds_ne (by omega),Array.getElem?_setIfInBounds_self_of_lt (by (try simp only [Array.size_setIfInBounds]);omega)]
 · rw [Array.getElem?_setIfInBounds_ne (by omega),Array.getElem?_setIfInBounds_ne (by omega),Array.getElem?_setIfInBounds_ne (by omega),Array.getElem?_setIfInBounds_self_of_lt (by (try simp only [Array.size_setIfInBounds]);omega)]
 · rw [Array.getElem?_setIfInBounds_ne (by omega),Array.getElem?_setIfInBounds_ne (by omega),Array.getElem?_setIfInBounds_self_of_lt (by (try simp only [Array.size_setIfInBounds]);omega)]
 · rw [Array.getElem?_setIfInBounds_ne (by omega),Array.getElem?_setIfInBounds_self_of_lt (by (try simp only [Array.size_setIfInBounds]);omega)]
 · rw [Array.getElem?_setIfInBounds_self_of_lt (by (try simp only [Array.size_setIfInBounds]);omega)]
 · rw [hw,heap_setCell_other _ _ _ _ hne,heap_setCell_other _ _ _ _ hne,heap_setCell_other _ _ _ _ hne,heap_setCell_other _ _ _ _ hne,heap_setCell_other _ _ _ _ hne,heap_setCell_other _ _ _ _ hne];exact ho
 · rw [hw];exact ((((((hB.setCell (p:=⟨B,u,none⟩) hN _).setCell (p:=⟨B,u+1,none⟩) hN _).setCell (p:=⟨B,u+2,none⟩) hN _).setCell (p:=⟨B,u+3,none⟩) hN _).setCell (p:=⟨B,u+4,none⟩) hN _).setCell (p:=⟨B,u+5,none⟩) hN _)
theorem Bn {i:Nat} (h:i≤1000):Aa' (((i:Nat):Int):Rat)≤2:=by
 have e:(((i:Nat):Int):Rat)=((i:Nat):Rat):=Rat.intCast_natCast i
 rw [e]
 refine nT (Cu' i) ?_
 have:len i≤1:=by
   have h1:=Ah h
   have h2:len 1000=1:=by decide +kernel
   omega
 omega
theorem Iy {w:World} {vx vy:Value} {x y q:Rat} (hq:x*y=q) (hx:Ac' w vx x) (hy:Ac' w vy y) (hs:Aa' x≤34359738368) (ht:Aa' y≤34359738368):Calls Tryz.prog 30 #[vx,vy] w (Ar' w q):=by rw [←hq];exact AY hx hy hs ht
theorem Iy' {w:World} {vx vy:Value} {x y q:Rat} (hq:x+y=q) (hx:Ac' w vx x) (hy:Ac' w vy y) (hs:Aa' x≤34359738368) (ht:Aa' y≤34359738368):Calls Tryz.prog 29 #[vx,vy] w (Ar' w q):=by rw [←hq];exact CV' hx hy hs ht
theorem Gx' {w:World} {bb bw i:Nat} {a b d x:Rat} {P1 P2 P3 P4 P5 P6:Option Addr} {r1 r2 r3 r4 r5 r6:Nat} (hx:a+d*(((i:Nat):Int):Rat)=x) (hbx:w.heap[bb]?=some (.cells #[.bool (decide (a.num<0)),.slice P1 (len a.num.natAbs) r1,.slice P2 (len (below a.den)) r2,.bool (decide (b.num<0)),.slice P3 (len b.num.natAbs) r3,.slice P4 (len (below b.den)) r4] 35 (0,0))) (hva:Ac' w (.agg #[.bool (decide (a.num<0)),.slice P1 (len a.num.natAbs) r1,.slice P2 (len (below a.den)) r2]) a) (hwd:w.heap[bw]?=some (.cells #[.bool (decide (d.num<0)),.slice P5 (len d.num.natAbs) r5,.slice P6 (len (below d.den)) r6] 33 (0,0))) (hvw:Ac' w (.agg #[.bool (decide (d.num<0)),.slice P5 (len d.num.natAbs) r5,.slice P6 (len (below d.den)) r6]) d) (hi:i≤1000) (sa:Aa' a≤1000000) (sd:Aa' d≤1000000) :
   Calls Tryz.prog 28 #[.int .i64 ((i:Nat):Int),.pointer (some ⟨bb,0,none⟩),.pointer (some ⟨bw,0,none⟩)] w (Ar' w x):=by
 obtain ⟨k,ek⟩:=eY ((((i:Nat):Int):Rat))
 have sk:Aa' k≤2:=by rw [←ek];exact Bn hi
 rw [ek] at hx
 obtain ⟨y,ey⟩:=eY (d*k)
 rw [ey] at hx
 have sy:Aa' y≤34359738368:=by rw [←ey];have:=AG d k;omega
 have sa':Aa' a≤34359738368:=by omega
 have sd':Aa' d≤34359738368:=by omega
 have sk':Aa' k≤34359738368:=by omega
 have hi1:(-9223372036854775808:Int)≤((i:Nat):Int):=by omega
 have hi2:((i:Nat):Int)≤9223372036854775807:=by omega
 clear sa sd sk
 replace hx:=hid hx
 replace ek:=hid ek
 replace ey:=hid ey
 replace hbx:=hid hbx
 replace hva:=hid hva
 replace hwd:=hid hwd
 replace hvw:=hid hvw
 obtain ⟨w1,hw1⟩:=eX ((w.alloc (.cells #[.bool false,.slice none 0 0,.slice none 0 0] 33)))
 have b1:=Ag' w (.cells #[.bool false,.slice none 0 0,.slice none 0 0] 33)
 have g1:=hA_ w (.cells #[.bool false,.slice none 0 0,.slice none 0 0] 33)
 rw [←hw1] at b1 g1
 replace g1:=hid g1
 replace b1:=hid b1
 go_enter Tryz.func28,Tryz.ntmps28
 go_upto_region 1 with fail
 rw [←hw1]
 clear hw1
 go_wp2_with fail
 obtain ⟨z_bx_0,z_bx_1,z_bx_2,z_bx_3,z_bx_4,z_bx_5⟩:=Ae' (Ad' hbx.out b1.out)
 have hqa_bx:bb<w1.heap.size:=bL _ _ z_bx_0
 obtain ⟨z_wd_0,z_wd_1,z_wd_2⟩:=Ab' (Ad' hwd.out b1.out)
 have hqa_wd:bw<w1.heap.size:=bL _ _ z_wd_0
 refine wp_region_held_drew (S:=(fun w'=>(w'.cell? ⟨bb,0,none⟩=w1.cell? ⟨bb,0,none⟩∧w'.cell? ⟨bb,1,none⟩=w1.cell? ⟨bb,1,none⟩∧w'.cell? ⟨bb,2,none⟩=w1.cell? ⟨bb,2,none⟩∧w'.cell? ⟨bb,3,none⟩=w1.cell? ⟨bb,3,none⟩∧w'.cell? ⟨bb,4,none⟩=w1.cell? ⟨bb,4,none⟩∧w'.cell? ⟨bb,5,none⟩=w1.cell? ⟨bb,5,none⟩∧w'.cell? ⟨bw,0,none⟩=w1.cell? ⟨bw,0,none⟩∧w'.cell? ⟨bw,1,none⟩=w1.cell? ⟨bw,1,none⟩∧w'.cell? ⟨bw,2,none⟩=w1.cell? ⟨bw,2,none⟩))) (by kernel_rfl) ?_ (fun hHeld=>?_)
 · (try dsimp only)
   exact ⟨rfl,rfl,rfl,rfl,rfl,rfl,rfl,rfl,rfl⟩
 obtain ⟨w2,hw2⟩:=eX w1.drew
 have b2:Hid (Below w1.heap.size w1 w2):=by rw [hw2];exact ⟨rfl,rfl,rfl,nL _,fun _ _=>rfl⟩
 rw [←hw2] at hHeld ⊢
 clear hw2
 refine tk (i:=0) (h:=?_)
 try simp only [Act.put,lt,ly,lu]
 refine tk (i:=1) (h:=?_)
 try simp only [Act.put,lt,ly,lu]
 refine tk (i:=2) (h:=?_)
 try simp only [Act.put,lt,ly,lu]
 refine tk (i:=3) (h:=?_)
 try simp only [Act.put,lt,ly,lu]
 refine rd (i:=4) (h:=fun K hK=>?_);go_simp;go_at_call 16
 refine (BJ hi1 hi2 ek.out).mono ?_
 rintro e w3 ⟨v3,rfl,hv3,b3⟩
 obtain ⟨C1,j1,C2,j2,rfl,-,-⟩:=id hv3.opened
 replace hv3:=hid hv3
 replace b3:=hid b3
 have y1_3:=hid (bS b2.out b3.out)
 have hS:=y1_3.out
 clear hHeld
 refine hK.out _ _ ?_ (fun hHeld=>?_)
 · (try dsimp only)
   exact ⟨hS.cell (p:=⟨bb,0,none⟩) hqa_bx,hS.cell (p:=⟨bb,1,none⟩) hqa_bx,hS.cell (p:=⟨bb,2,none⟩) hqa_bx,hS.cell (p:=⟨bb,3,none⟩) hqa_bx,hS.cell (p:=⟨bb,4,none⟩) hqa_bx,hS.cell (p:=⟨bb,5,none⟩) hqa_bx,hS.cell (p:=⟨bw,0,none⟩) hqa_wd,hS.cell (p:=⟨bw,1,none⟩) hqa_wd,hS.cell (p:=⟨bw,2,none⟩) hqa_wd⟩
 clear hK K hS;try simp only [Act.put,lt,ly,lu]
 have y0_3:=hid (bS (bS b1.out b2.out) b3.out)
 refine rd (i:=5) (h:=fun K hK=>?_);go_simp;go_at_call 30
 refine (Iy ey.out (hvw.out.keep y0_3.out) hv3.out sd' sk').mono ?_
 rintro e w4 ⟨v4,rfl,hv4,b4⟩
 obtain ⟨C3,j3,C4,j4,rfl,-,-⟩:=id hv4.opened
 replace hv4:=hid hv4
 replace b4:=hid b4
 have y1_4:=hid (bS y1_3.out b4.out)
 have hS:=y1_4.out
 clear hHeld
 refine hK.out _ _ ?_ (fun hHeld=>?_)
 · (try dsimp only)
   exact ⟨hS.cell (p:=⟨bb,0,none⟩) hqa_bx,hS.cell (p:=⟨bb,1,none⟩) hqa_bx,hS.cell (p:=⟨bb,2,none⟩) hqa_bx,hS.cell (p:=⟨bb,3,none⟩) hqa_bx,hS.cell (p:=⟨bb,4,none⟩) hqa_bx,hS.cell (p:=⟨bb,5,none⟩) hqa_bx,hS.cell (p:=⟨bw,0,none⟩) hqa_wd,hS.cell (p:=⟨bw,1,none⟩) hqa_wd,hS.cell (p:=⟨bw,2,none⟩) hqa_wd⟩
 clear hK K hS;try simp only [Act.put,lt,ly,lu]
 have y0_4:=hid (bS y0_3.out b4.out)
 refine rd (i:=6) (h:=fun K hK=>?_);go_simp;go_at_call 29
 refine (Iy' hx.out (hva.out.keep y0_4.out) hv4.out sa' sy).mono ?_
 rintro e w5 ⟨v5,rfl,hv5,b5⟩
 obtain ⟨C5,j5,C6,j6,rfl,-,-⟩:=id hv5.opened
 replace hv5:=hid hv5
 replace b5:=hid b5
 have y1_5:=hid (bS y1_4.out b5.out)
 have hS:=y1_5.out
 clear hHeld
 refine hK.out _ _ ?_ (fun hHeld=>?_)
 · (try dsimp only)
   exact ⟨hS.cell (p:=⟨bb,0,none⟩) hqa_bx,hS.cell (p:=⟨bb,1,none⟩) hqa_bx,hS.cell (p:=⟨bb,2,none⟩) hqa_bx,hS.cell (p:=⟨bb,3,none⟩) hqa_bx,hS.cell (p:=⟨bb,4,none⟩) hqa_bx,hS.cell (p:=⟨bb,5,none⟩) hqa_bx,hS.cell (p:=⟨bw,0,none⟩) hqa_wd,hS.cell (p:=⟨bw,1,none⟩) hqa_wd,hS.cell (p:=⟨bw,2,none⟩) hqa_wd⟩
 clear hK K hS;try simp only [Act.put,lt,ly,lu]
 have hb1:=at_lt hbx.out
 have hb2:=at_lt hwd.out
 have Dq8:=(Ad' g1.out y1_5.out)
 refine rd (i:=7) (h:=fun K hK=>?_)
 have q0:w5.cell? ⟨w.heap.size,0,none⟩=some (.bool false):=cR _ _ _ _ _ _ Dq8
 have F0:w5.frozen? ⟨w.heap.size,0,none⟩=false:=fR w5 (w.heap.size) 0 _ _ Dq8
 have q1:w5.cell? ⟨w.heap.size,1,none⟩=some (.slice none 0 0):=cR _ _ _ _ _ _ Dq8
 have F1:w5.frozen? ⟨w.heap.size,1,none⟩=false:=fR w5 (w.heap.size) 1 _ _ Dq8
 have q2:w5.cell? ⟨w.heap.size,2,none⟩=some (.slice none 0 0):=cR _ _ _ _ _ _ Dq8
 have F2:w5.frozen? ⟨w.heap.size,2,none⟩=false:=fR w5 (w.heap.size) 2 _ _ Dq8
 replace Dq8:=hid Dq8
 go_simp
 clear q0 F0 q1 F1 q2 F2
 have y0_5:=hid (bS y0_4.out b5.out)
 have FB:=hid y0_5.out
 have FV:=hid hv5.out
 have hS:=y1_5.out
 obtain ⟨ue,hw⟩:=eX ((((w5.setCell ⟨w.heap.size,0,none⟩ (.bool (decide (x.num<0)))).setCell ⟨w.heap.size,1,none⟩ (.slice C5 (Vx.len x.num.natAbs) j5)).setCell ⟨w.heap.size,2,none⟩ (.slice C6 (Vx.len (below x.den)) j6)))
 obtain ⟨E_ue,OT,LV,BL⟩:=A7' Dq8.out hw
 rw [←hw]
 clear hw
 replace E_ue:=hid E_ue
 have FE:=hid (LV.num FV.out)
 replace FB:=hid (BL _ _ (by omega) FB.out)
 have hO_bx:=Ae' (OT _ _ (by omega) (Ad' hbx.out y0_5.out))
 have hO_wd:=Ab' (OT _ _ (by omega) (Ad' hwd.out y0_5.out))
 refine hK.out _ _ ?_ (fun hHeld2=>?_)
 · (try dsimp only)
   exact ⟨hO_bx.1.trans z_bx_0.symm,hO_bx.2.1.trans z_bx_1.symm,hO_bx.2.2.1.trans z_bx_2.symm,hO_bx.2.2.2.1.trans z_bx_3.symm,hO_bx.2.2.2.2.1.trans z_bx_4.symm,hO_bx.2.2.2.2.2.trans z_bx_5.symm,hO_wd.1.trans z_wd_0.symm,hO_wd.2.1.trans z_wd_1.symm,hO_wd.2.2.trans z_wd_2.symm⟩
 clear hK K hHeld OT LV BL hS hO_bx hO_wd
 try simp only [Act.put,lt,ly,lu]
 have hHeld:=hHeld2
 clear hHeld2
 refine wpAnyH_done (by kernel_rfl) ?_ _
 clear hHeld
 obtain ⟨r0,r1,r2⟩:=Ab' E_ue.out
 go_wp2_with fail
 refine bP (v:=.agg #[.bool (decide (x.num<0)),.slice C5 (Vx.len x.num.natAbs) j5,.slice C6 (Vx.len (below x.den)) j6]) ?_ rfl ⟨_,rfl,FE.out,FB.out⟩
 simp [results,Tryz.results28,go_sem,r0,r1,r2]
theorem Hu {w:World} {v:Value} {a b q:Rat} (hq:b - a=q) (hv:Ao' w v a b) (sa:Aa' a≤536870912) (sb:Aa' b≤536870912) :
   Calls Tryz.prog 26 #[v] w (Ar' w q):=by
 rw [←hq];exact Fl' hv (nT sa (by omega)) (nT sb (by omega))
theorem Aj.box {wS w:World} {v:Value} {a b:Rat} (h:Aj wS w) (hv:Ao' wS v a b):Ao' w v a b:=by
 obtain ⟨v1,v2,v3,v4,e,h1,h2,h3,h4⟩:=hv
 exact ⟨v1,v2,v3,v4,e,h _ _ h1,h _ _ h2,h _ _ h3,h _ _ h4⟩
theorem F0' {F:Nat→Array Bool→Act→World→Prop} {n:Nat} {L:Array Bool} {A:Act} {w:World} (h:∀ A0,A=A0→F n L A0 w):F n L A w:=h _ rfl
end Go.Proofs.YtbigkkjnhcpgiaaGreatDoor
