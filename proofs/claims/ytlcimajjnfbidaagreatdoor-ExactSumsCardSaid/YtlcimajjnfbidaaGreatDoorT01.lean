/-
  Contracts of the functions that the law calls, for every input (Ub Uc Ud Ue Uf).
-/
import Derived.Test.YtlcimajjnfbidaaGreatDoorE00
import Derived.Test.YtlcimajjnfbidaaGreatDoorE01
import Derived.Test.YtlcimajjnfbidaaGreatDoorE02
import Derived.Test.YtlcimajjnfbidaaGreatDoorE03
import Derived.Test.YtlcimajjnfbidaaGreatDoorE04
import Derived.Test.YtlcimajjnfbidaaGreatDoorE05
import Derived.Test.YtlcimajjnfbidaaGreatDoorE06
import Derived.Test.YtlcimajjnfbidaaGreatDoorE07
import Derived.Test.YtlcimajjnfbidaaGreatDoorE08
import Derived.Test.YtlcimajjnfbidaaGreatDoorE09
import Derived.Test.YtlcimajjnfbidaaGreatDoorE10
import Derived.Test.YtlcimajjnfbidaaGreatDoorE11
import Derived.Test.YtlcimajjnfbidaaGreatDoorE12
import Derived.Test.YtlcimajjnfbidaaGreatDoorE13
import Derived.Test.YtlcimajjnfbidaaGreatDoorE14
import Derived.Test.YtlcimajjnfbidaaGreatDoorE15
import Derived.Test.YtlcimajjnfbidaaGreatDoorE16
import Derived.Test.YtlcimajjnfbidaaGreatDoorE17
import Derived.Test.YtlcimajjnfbidaaGreatDoorE18
import Derived.Test.YtlcimajjnfbidaaGreatDoorE19
import Derived.Test.YtlcimajjnfbidaaGreatDoorE21
import Derived.Test.YtlcimajjnfbidaaGreatDoorE22
import Derived.Test.YtlcimajjnfbidaaGreatDoorE20
import Derived.Test.YtlcimajjnfbidaaGreatDoorE23
import Derived.Test.YtlcimajjnfbidaaGreatDoorE24
import Derived.Test.YtlcimajjnfbidaaGreatDoorE26
import Derived.Test.YtlcimajjnfbidaaGreatDoorE27
import Derived.Test.YtlcimajjnfbidaaGreatDoorE28
import Derived.Test.YtlcimajjnfbidaaGreatDoorE29
import Derived.Test.YtlcimajjnfbidaaGreatDoorE30
import Derived.Test.YtlcimajjnfbidaaGreatDoorE31
import Derived.Test.YtlcimajjnfbidaaGreatDoorE32
import Derived.Test.YtlcimajjnfbidaaGreatDoorE33
import Derived.Test.YtlcimajjnfbidaaGreatDoorE34
import Derived.Test.YtlcimajjnfbidaaGreatDoorE35
import Derived.Test.YtlcimajjnfbidaaGreatDoorE36
import Derived.Test.YtlcimajjnfbidaaGreatDoorE37
import Derived.Test.YtlcimajjnfbidaaGreatDoorE38
import Derived.Test.YtlcimajjnfbidaaGreatDoorE39
import Derived.Test.YtlcimajjnfbidaaGreatDoorE41
import Derived.Test.YtlcimajjnfbidaaGreatDoorE42
import Derived.OwnWalk
set_option linter.all false
set_option maxRecDepth 100000
set_option maxHeartbeats 40000000
namespace Go.Proofs.YtlcimajjnfbidaaGreatDoor.Rf
open Lib (hid)
open Go.RowKit
open Rx
open Vx (siz siz_num siz_den)
open List renaming getElem?_toArray → lg, getElem?_cons_zero → lz, getElem?_cons_succ → ls, setIfInBounds_toArray → lt, set_cons_zero → ly, set_cons_succ → lu
theorem wp_push {P:Program} {o:Oper} {a:Act} {w:World} {K:Act→World→Prop} {Q:Exit→Act→World→Prop} {s x:Operand} {t:TypeId}
   (ho:o.op=.call { callee:=.builtin .append,args:=#[s,x],argTypes:=#[t,t] }) {e:TypeId} {bytes:Nat} (ht:P.underlying t=some (.slice e)) (hi:(P.info? e).map (fun i=>(i.zero,i.size,i.bytes))=some (some (.agg #[.bool false,.slice none 0 0,.slice none 0 0]),3,bytes))
   {I:World→Value→Rat→Prop} (hI:∀ w w',Live w w'→∀ v q,I w v q→I w' v q) {B:Nat} {v:Value} {l:List Rat} {q:Rat} (hs:a.eval s=v) (hG:Grow I e B w v l) {k c n1 c1 n2 c2:Nat} {A1 A2:Option Addr} {s1:Bool} (hx:a.eval x=.slice (some ⟨k,0,none⟩) 1 c)
   (hrow:w.heap[k]?=some (.cells #[.bool s1,.slice A1 n1 c1,.slice A2 n2 c2] e (0,0))) (hq:I w (.agg #[.bool s1,.slice A1 n1 c1,.slice A2 n2 c2]) q) (hn:(l.length+1)*bytes≤140737488355328) (hm:l.length+1≤maxLen) (hB:B≤w.heap.size)
   (h:∀ v' w',Grow I e B w' v' (l++[q])→Live w w'→w.grownBy w' v.ownBlock→(∀ g,v'.ownBlock=some g→v.ownBlock=some g∨g=w.heap.size)→K (a.put o.dst v') w'):o.wp P a w K Q:=by
 obtain ⟨i,hi1,hi2,hi3,hi4⟩:=info_parts hi
 obtain ⟨g0,cap0,xs,hv,hown,hni,hels⟩:=hG
 obtain ⟨r0,r1,r2⟩:=cells3 hrow
 refine wp_append_ni ho ht hi1 hi2 hi3 hi4 rfl (by decide) hs hown hx (news:=[.bool s1,.slice A1 n1 c1,.slice A2 n2 c2]) rfl ?_ ?_ (by decide) hm hn hB hni ?_ ?_ ?_
 · intro j u hj
   match j with
   | 0=>obtain rfl:=Option.some.inj hj;exact r0
   | 1=>obtain rfl:=Option.some.inj hj;exact r1
   | 2=>obtain rfl:=Option.some.inj hj;exact r2
   | j+3=>simp at hj
 · intro u hu
   simp only [List.mem_cons,List.not_mem_nil,or_false] at hu
   rcases hu with rfl | rfl | rfl <;> rfl
 · intro u hu k n
   simp only [List.mem_cons,List.not_mem_nil,or_false] at hu
   rcases hu with rfl | rfl | rfl <;> simp
 · intro u hu k n
   simp only [Value.cells,List.mem_cons,List.not_mem_nil,or_false] at hu
   rcases hu with rfl | rfl | rfl <;> simp
 · intro g cap w' h1 h2 h3 h4 h5
   have LV:=live_grown hni h2
   refine h _ w' (Grow.push hels (fun v q hv=>hI _ _ LV v q hv) (hI _ _ LV _ _ hq) h1 h5) LV h2 ?_
   intro g' hg'
   obtain rfl:g=g':=Option.some.inj hg'
   exact h3
structure St (w u:World) (X:Nat) (ox oy:Obj) (av bv:Value) (la lb:List Rat) (vx vy:Value) (q:Rat):Prop where
  ga:Grow IsNum 31 w.heap.size u av la
  gb:Grow IsRat 39 w.heap.size u bv lb
  dis:∀ g,av.ownBlock=some g→bv.ownBlock≠some g
  nx:IsNum u vx q
  ny:IsRat u vy q
  rx:u.heap[X]?=some ox
  ry:u.heap[X+1]?=some oy
  ax:av.ownBlock≠some X∧av.ownBlock≠some (X+1)
  bx:bv.ownBlock≠some X∧bv.ownBlock≠some (X+1)
  hb:Below w.heap.size w u
theorem Grow.own {I:World→Value→Rat→Prop} {T:TypeId} {B:Nat} {w:World} {v:Value} {l:List Rat} (h:Grow I T B w v l):∀ g,v.ownBlock=some g→B≤g∧g<w.heap.size:=by
 obtain ⟨g,cap,xs,rfl,h1,-,-⟩:=h
 exact h1.lt
variable {w u u':World} {X:Nat} {ox oy:Obj} {av bv:Value} {la lb:List Rat} {vx vy:Value} {q:Rat}
theorem St.keep (h:St w u X ox oy av bv la lb vx vy q) (hb:Below u.heap.size u u'):St w u' X ox oy av bv la lb vx vy q :=
 ⟨h.ga.keep hb (fun _ _ k=>k.keep hb),h.gb.keep hb (fun _ _ k=>k.keep hb),h.dis,h.nx.keep hb,h.ny.keep hb,at_keep h.rx hb,at_keep h.ry hb,h.ax,h.bx,chain h.hb hb⟩
theorem St.pushA {av':Value} (h:St w u X ox oy av bv la lb vx vy q) (hG:Grow IsNum 31 w.heap.size u' av' (la++[q])) (LV:Live u u') (GR:u.grownBy u' av.ownBlock) (ho:∀ g,av'.ownBlock=some g→av.ownBlock=some g∨g=u.heap.size):St w u' X ox oy av' bv (la++[q]) lb vx vy q:=by
 have hne:∀ k,u.heap[k]?=some ox∨u.heap[k]?=some oy→k<u.heap.size:=fun k hk=>by rcases hk with hk | hk <;> exact at_lt hk
 have hX:=hne X (Or.inl h.rx)
 have hY:=hne _ (Or.inr h.ry)
 refine ⟨hG,h.gb.other GR (fun g hg he=>h.dis g he hg) (fun _ _ k=>LV.rat k),fun g hg he=>?_,LV.num h.nx,LV.rat h.ny,(GR.block _ hX (fun e=>h.ax.1 e.symm)).trans h.rx,(GR.block _ hY (fun e=>h.ax.2 e.symm)).trans h.ry,⟨fun e=>?_,fun e=>?_⟩,h.bx,Below.grown h.hb GR h.hb.size (fun k hk=>(h.ga.own k hk).1)⟩
 · rcases ho g hg with k | k
   · exact h.dis g k he
   · have:=(h.gb.own g he).2;omega
 · rcases ho _ e with k | k
   · exact h.ax.1 k
   · omega
 · rcases ho _ e with k | k
   · exact h.ax.2 k
   · omega
theorem St.pushB {bv':Value} (h:St w u X ox oy av bv la lb vx vy q) (hG:Grow IsRat 39 w.heap.size u' bv' (lb++[q])) (LV:Live u u') (GR:u.grownBy u' bv.ownBlock) (ho:∀ g,bv'.ownBlock=some g→bv.ownBlock=some g∨g=u.heap.size):St w u' X ox oy av bv' la (lb++[q]) vx vy q:=by
 have hne:∀ k,u.heap[k]?=some ox∨u.heap[k]?=some oy→k<u.heap.size:=fun k hk=>by rcases hk with hk | hk <;> exact at_lt hk
 have hX:=hne X (Or.inl h.rx)
 have hY:=hne _ (Or.inr h.ry)
 refine ⟨h.ga.other GR (fun g hg he=>h.dis g hg he) (fun _ _ k=>LV.num k),hG,fun g hg he=>?_,LV.num h.nx,LV.rat h.ny,(GR.block _ hX (fun e=>h.bx.1 e.symm)).trans h.rx,(GR.block _ hY (fun e=>h.bx.2 e.symm)).trans h.ry,h.ax,⟨fun e=>?_,fun e=>?_⟩,Below.grown h.hb GR h.hb.size (fun k hk=>(h.gb.own k hk).1)⟩
 · rcases ho g he with k | k
   · exact h.dis g hg k
   · have:=(h.ga.own g hg).2;omega
 · rcases ho _ e with k | k
   · exact h.bx.1 k
   · omega
 · rcases ho _ e with k | k
   · exact h.bx.2 k
   · omega
theorem liveNum:∀ w w':World,Live w w'→∀ v q,IsNum w v q→IsNum w' v q:=fun _ _ h _ _ k=>h.num k
theorem liveRat:∀ w w':World,Live w w'→∀ v q,IsRat w v q→IsRat w' v q:=fun _ _ h _ _ k=>h.rat k
theorem infoNum:(Tryz.prog.info? 31).map (fun i=>(i.zero,i.size,i.bytes))=some (some (.agg #[.bool false,.slice none 0 0,.slice none 0 0]),3,56):=by kernel_rfl
theorem infoRat:(Tryz.prog.info? 39).map (fun i=>(i.zero,i.size,i.bytes))=some (some (.agg #[.bool false,.slice none 0 0,.slice none 0 0]),3,56):=by kernel_rfl
def vals (ss:List ByteArray):List Rat:=ss.map fun s=>(parseV s).1
theorem vals_step {ss:List ByteArray} {k:Nat} {s:ByteArray} (h:ss[k]?=some s):vals (ss.take k)++[(parseV s).1]=vals (ss.take (k+1)):=by
 rw [List.take_add_one,h,Option.toList_some]
 simp [vals]
theorem vals_len (ss:List ByteArray) (k:Nat) (h:k≤ss.length):(vals (ss.take k)).length=k:=by
 simp [vals,Nat.min_eq_left h]
def StrsAt (w:World) (ad:Option Addr) (ss:List ByteArray):Prop:=∀ (i:Nat) (s:ByteArray),ss[i]?=some s→∃ b o,ad=some ⟨b,o,none⟩∧w.cell? ⟨b,o+i,none⟩=some (.string s)
theorem StrsAt.keep {ad:Option Addr} {ss:List ByteArray} (h:StrsAt w ad ss) (hb:Below w.heap.size w u):StrsAt u ad ss:=by
 intro i s hi
 obtain ⟨b,o,e,hc⟩:=h i s hi
 exact ⟨b,o,e,(hb.cell (World.block_lt_of_cell? w _ hc)).trans hc⟩
def NumsTo (w:World) (ss:List ByteArray) (k:Nat) (av bv:Value) (u:World):Prop :=
  Grow IsNum 31 w.heap.size u av (vals (ss.take k))∧Grow IsRat 39 w.heap.size u bv (vals (ss.take k))∧(∀ g,av.ownBlock=some g→bv.ownBlock≠some g)∧Below w.heap.size w u∧∀ s∈ss.take k,s.size≤40
theorem St.to (h:St w u X ox oy av bv la lb vx vy q) {ss:List ByteArray} {k:Nat} {s:ByteArray} (hs:ss[k]?=some s) (h40:s.size≤40) (hold:∀ s∈ss.take k,s.size≤40) (ea:la=vals (ss.take k)++[(parseV s).1]) (eb:lb=vals (ss.take k)++[(parseV s).1]):NumsTo w ss (k+1) av bv u:=by
 rw [vals_step hs] at ea eb
 subst ea eb
 refine ⟨h.ga,h.gb,h.dis,h.hb,?_⟩
 rw [List.take_add_one,hs,Option.toList_some]
 intro x hx
 rcases List.mem_append.1 hx with hx | hx
 · exact hold x hx
 · obtain rfl:=List.mem_singleton.1 hx
   exact h40
def NumbersRet (w:World) (ss:List ByteArray) (e:Ending) (u:World):Prop :=
  (((¬ (20<ss.length∧ss.length≤200∨210<ss.length))∧∀ s∈ss,s.size≤40)∧∃ g1 c1 g2 c2,e=.returned (.tuple #[.slice (some ⟨g1,0,none⟩) ss.length c1,.slice (some ⟨g2,0,none⟩) ss.length c2,.bool true])∧NumsAt u g1 0 (vals ss)∧RatsIn u g2 0 (vals ss)∧Below w.heap.size w u) ∨
  (¬ ((¬ (20<ss.length∧ss.length≤200∨210<ss.length))∧∀ s∈ss,s.size≤40)∧e=.returned (.tuple #[.slice none 0 0,.slice none 0 0,.bool false])∧Below w.heap.size w u)
theorem NumsTo.ret {ss:List ByteArray} (h:NumsTo w ss ss.length av bv u) (hc:¬ (20<ss.length∧ss.length≤200∨210<ss.length)):NumbersRet w ss (.returned (.tuple #[av,bv,.bool true])) u:=by
 obtain ⟨h1,h2,-,h3,h4⟩:=h
 rw [List.take_length] at h1 h2 h4
 obtain ⟨g1,c1,rfl,k1⟩:=h1.nums
 obtain ⟨g2,c2,rfl,k2⟩:=h2.rats
 have e:(vals ss).length=ss.length:=by simp [vals]
 exact Or.inl ⟨⟨hc,h4⟩,g1,c1,g2,c2,by rw [e],k1,k2,h3⟩
theorem grow_nil {I:World→Value→Rat→Prop} {T:TypeId} {B:Nat} {w:World} (hB:B≤w.heap.size):Grow I T B (w.alloc (.cells #[] T)) (.slice (some ⟨w.heap.size,0,none⟩) 0 0) [] :=
 ⟨w.heap.size,0,[],rfl,World.ownsRow_made w #[] 0 hB (by decide) rfl,fun g hg o u hu=>by
   obtain rfl:w.heap.size=g:=Option.some.inj hg
   rw [cell_of_row _ _ _ _ _ _ (heap_alloc_new w _)] at hu
   simp at hu,trivial⟩
end Go.Proofs.YtlcimajjnfbidaaGreatDoor.Rf
namespace Go.Proofs.YtlcimajjnfbidaaGreatDoor.Rf
open Lib (hid)
open Go.RowKit
open Rx
open Vx (siz siz_num siz_den)
open List renaming getElem?_toArray → lg, getElem?_cons_zero → lz, getElem?_cons_succ → ls, setIfInBounds_toArray → lt, set_cons_zero → ly, set_cons_succ → lu
theorem numbers_back {w:World} {ad:Option Addr} {c:Nat} {ss:List ByteArray} {mx:Int} {y1 y5 y6 y7 y8 y9 y10 y11 y12 y13 y14 y15 y16 y17 y18 y19 y20 y21 y22 y23 y24 y25 y26 y27 y28 y29 y30 y31 y32 y33 y34 y35 y36 y37 y38 y39 y40 y41 y42 y43 y44 y45 y46 y47 y48 y49 y50 y51 y52 y53 y54:Value} (hS:StrsAt w ad ss) (hc:¬ (20<ss.length∧ss.length≤200∨210<ss.length)) (hn:ss.length≤1000) (hM:w.cell? ⟨1,0,none⟩=some (.int .i64 mx)) :
   (codeAt 2 Tryz.f7).wp Tryz.prog (bodyPost Tryz.prog Tryz.f7 (NumbersRet w ss)) { tmps:=#[.slice ad ss.length c,y1,.slice none 0 0,.slice none 0 0,.bool false,y5,y6,y7,y8,y9,y10,y11,y12,y13,y14,y15,y16,y17,y18,y19,y20,y21,y22,y23,y24,y25,y26,y27,y28,y29,y30,y31,y32,y33,y34,y35,y36,y37,y38,y39,y40,y41,y42,y43,y44,y45,y46,y47,y48,y49,y50,y51,y52,y53,y54],defers:=[] } w:=by
 replace hM:=hid hM
 replace hc:=hid hc
 replace hS:=hid hS
 have b0:((ss.length:Nat):Int)≤9223372036854775807:=by omega
 show Code.wp _ (Code.seq _ _) _ _ _
 go_wp2_with fail
 obtain ⟨w1,hw1⟩:=eX ((w.alloc (.cells #[] 31)).alloc (.cells #[] 39))
 have HR:Hid (NumsTo w ss 0 (.slice (some ⟨w.heap.size,0,none⟩) 0 0) (.slice (some ⟨w.heap.size+1,0,none⟩) 0 0) w1):=by
   have h1:=grow_nil (I:=IsNum) (T:=31) (w:=w) (Nat.le_refl w.heap.size)
   have h2:=grow_nil (I:=IsRat) (T:=39) (B:=w.heap.size) (w:=w.alloc (.cells #[] 31)) (by rw [World.size_alloc];omega)
   rw [World.size_alloc] at h2
   have hb:Below (w.alloc (.cells #[] 31)).heap.size (w.alloc (.cells #[] 31)) w1:=newb1 hw1
   have hb0:=alloc_below w (.cells #[] 31)
   refine hid ⟨h1.keep hb (fun _ _ k=>k.keep hb),?_,?_,chain hb0 hb,by simp⟩
   · rw [hw1];exact h2
   · intro g hg he
     obtain rfl:=Option.some.inj hg
     have:=Option.some.inj he
     simp at this
 rw [←hw1]
 clear hw1
 go_loopw [5,6,7] (fun av bv iv wr=>∃ k:Nat,k≤ss.length∧iv=.int .i64 ((k:Nat):Int)∧Hid (NumsTo w ss k av bv wr)) (fun _ _ iv _=>ss.length - (intOf iv).toNat)
 case atStart=>exact ⟨0,Nat.zero_le _,rfl,HR⟩
 case round =>
   obtain ⟨k,hk,rfl,hrel⟩:=hrel
   clear HR
   rcases Nat.lt_or_ge k ss.length with hkn | hkn
   · obtain ⟨s,hs⟩:∃ s,ss[k]?=some s:=⟨ss[k],by simp [hkn]⟩
     obtain ⟨q,hq⟩:=eY ((parseV s).1)
     have hbw:=hrel.out.2.2.2.1
     obtain ⟨b,o,rfl,hcell⟩:=(hS.out.keep hbw) k s hs
     have HMr:=hid (cell_keep hM.out hbw)
     clear hbw
     have hss:=hid hs
     replace hq:=hid hq
     clear hs
     have hk1:k+1≤ss.length:=hkn
     have hin:decide (k<ss.length)=true:=decide_eq_true hkn
     rcases Decidable.em (40<s.size) with h40 | h40
     · have d40:decide (((s.size:Nat):Int)>40)=true:=decide_eq_true (by omega)
       have hin2:((s.size:Nat):Int)>40:=by omega
       have HF:=hid (show NumbersRet w ss (.returned (.tuple #[.slice none 0 0,.slice none 0 0,.bool false])) wr from Or.inr ⟨fun h=>absurd (h.2 s (List.mem_of_getElem? hss.out)) (by omega),rfl,hrel.out.2.2.2.1⟩)
       clear hrel hS hc
       go_wp2_with fail
       go_ret3
       exact HF.out
     · have d40:decide (((s.size:Nat):Int)>40)=false:=decide_eq_false (by omega)
       have hin2:¬ ((s.size:Nat):Int)>40:=by omega
       have hs40:s.size≤1048576:=by omega
       replace h40:=hid (show s.size≤40 by omega)
       replace hs40:=hid hs40
       have HX:=hid (both_any hq.out hs40.out HMr.out)
       go_wp2_with fail
       refine (HX.out).mono ?_
       rintro e w91 ⟨va91,vb91,rfl,ha91,hb91,b91⟩
       obtain ⟨C101,j101,C102,j102,rfl,-,-⟩:=id ha91.opened
       replace ha91:=hid ha91
       obtain ⟨C103,j103,C104,j104,rfl,-,-⟩:=id hb91.opened
       replace hb91:=hid hb91
       replace b91:=hid b91
       clear HX
       go_upto_region 10 with fail
       obtain ⟨w92,hw92⟩:=eX ((w91.alloc (.cells #[.bool (decide (q.num<0)),.slice C101 (Vx.len q.num.natAbs) j101,.slice C102 (Vx.len (below q.den)) j102] 31)).alloc (.cells #[.bool (decide (q.num<0)),.slice C103 (len q.num.natAbs) j103,.slice C104 (len q.den) j104] 39))
       obtain ⟨b92,L92,M92⟩:=newz2 hw92
       rw [←hw92]
       clear hw92
       replace b92:=hid b92
       replace L92:=hid L92
       replace M92:=hid M92
       have y90_92:=hid (Below.step b91.out b92.out)
       obtain ⟨X,hX⟩:=eY w91.heap.size
       have hst:=hrel.out
       obtain ⟨gA,gB,dis,hbw,hold⟩:=hst
       have lX:wr.heap.size≤X:=by rw [←hX];exact b91.out.size
       have kX:=y90_92.out
       have T0:Hid (St w w92 X _ _ u5 u6 (vals (ss.take k)) (vals (ss.take k)) _ _ q):=hid ⟨gA.keep kX (fun _ _ h=>h.keep kX),gB.keep kX (fun _ _ h=>h.keep kX),dis,(ha91.out.keep b92.out),(hb91.out.keep b92.out),by rw [←hX];exact L92.out,by rw [←hX];exact M92.out,⟨fun e=>by have:=(gA.own _ e).2;omega,fun e=>by have:=(gA.own _ e).2;omega⟩,⟨fun e=>by have:=(gB.own _ e).2;omega,fun e=>by have:=(gB.own _ e).2;omega⟩,chain hbw kX⟩
       have hl56:Hid (((vals (ss.take k)).length+1)*56≤140737488355328):=hid (by rw [vals_len _ _ hk];omega)
       have hlM:Hid ((vals (ss.take k)).length+1≤maxLen):=hid (by rw [vals_len _ _ hk];unfold maxLen;omega)
       replace hold:=hid hold
       rw [hX]
       clear hX lX kX gA gB dis hbw hrel hS hc HMr b91 b92 L92 M92 ha91 hb91 hcell
       go_wp2_with fail
       refine wp_region_held_drew (S:=(fun w'=>(w'.cell? ⟨X,0,none⟩=some (.bool (decide (q.num<0)))∧w'.cell? ⟨X,1,none⟩=some (.slice C101 (Vx.len q.num.natAbs) j101)∧w'.cell? ⟨X,2,none⟩=some (.slice C102 (Vx.len (below q.den)) j102)∧w'.cell? ⟨X+1,0,none⟩=some (.bool (decide (q.num<0)))∧w'.cell? ⟨X+1,1,none⟩=some (.slice C103 (len q.num.natAbs) j103)∧w'.cell? ⟨X+1,2,none⟩=some (.slice C104 (len q.den) j104)))) (by kernel_rfl) ?_ (fun hHeld=>?_)
       · (try dsimp only);have k1:=cells3 T0.out.rx;have k2:=cells3 T0.out.ry;exact ⟨k1.1,k1.2.1,k1.2.2,k2.1,k2.2.1,k2.2.2⟩
       obtain ⟨wz0,hu⟩:=eX w92.drew
       have T1:=hid (T0.out.keep (u':=wz0) (by rw [hu];exact ⟨rfl,rfl,rfl,Nat.le_refl _,fun _ _=>rfl⟩))
       rw [←hu] at hHeld ⊢
       clear hu T0
       refine tk (i:=0) (h:=?_)
       try simp only [Act.put,lt,ly,lu]
       refine tk (i:=1) (h:=?_)
       try simp only [Act.put,lt,ly,lu]
       refine tk (i:=4) (h:=?_)
       try simp only [Act.put,lt,ly,lu]
       refine tk (i:=5) (h:=?_)
       try simp only [Act.put,lt,ly,lu]
       refine wpAnyH_ready (rs:=[2,6]) (by kernel_rfl) (by simp) (AllReadyH.cons (o:=?o2q1) ?e2q1 ?k2q1 (AllReadyH.cons (o:=?o6q1) ?e6q1 ?k6q1 AllReadyH.nil))
       case e2q1=>simp only [lg,lz,ls] <;> rfl
       case e6q1=>simp only [lg,lz,ls] <;> rfl
       case k2q1 =>
         intro K hK
         go_simp
         obtain ⟨wz1,hv⟩:=eX (wz0.alloc (.cells #[.bool (decide (q.num<0)),.slice C101 (Vx.len q.num.natAbs) j101,.slice C102 (Vx.len (below q.den)) j102] 31))
         have bb:=newb1 hv
         have Ra1:=hid (newz1 hv)
         have l1:Hid (wz0.heap.size<wz1.heap.size):=hid (at_lt Ra1.out)
         rw [←hv]
         clear hv
         have T1:=hid (T1.out.keep bb)
         refine hK.out _ _ ?_ (fun hHeld=>?_)
         · (try dsimp only);have k1:=cells3 T1.out.rx;have k2:=cells3 T1.out.ry;exact ⟨k1.1,k1.2.1,k1.2.2,k2.1,k2.2.1,k2.2.2⟩
         clear hK K bb
         try simp only [Act.put,lt,ly,lu]
         refine wpAnyH_ready (rs:=[3,6]) (by kernel_rfl) (by simp) (AllReadyH.cons (o:=?o3q2) ?e3q2 ?k3q2 (AllReadyH.cons (o:=?o6q2) ?e6q2 ?k6q2 AllReadyH.nil))
         case e3q2=>simp only [lg,lz,ls] <;> rfl
         case e6q2=>simp only [lg,lz,ls] <;> rfl
         case k3q2 =>
           intro K hK
           refine wp_push rfl (e:=31) Tryz.underlying23 infoNum liveNum rfl T1.out.ga rfl Ra1.out T1.out.nx hl56.out hlM.out T1.out.hb.size ?_
           intro p2 wz2 hG LV GR hO
           have T2:=hid (T1.out.pushA hG LV GR hO)
           refine hK.out _ _ ?_ (fun hHeld=>?_)
           · (try dsimp only);have k1:=cells3 T2.out.rx;have k2:=cells3 T2.out.ry;exact ⟨k1.1,k1.2.1,k1.2.2,k2.1,k2.2.1,k2.2.2⟩
           clear hK K hG LV GR hO
           try simp only [Act.put,lt,ly,lu]
           refine wpAnyH_ready (rs:=[6]) (by kernel_rfl) (by simp) (AllReadyH.cons (o:=?o6q3) ?e6q3 ?k6q3 AllReadyH.nil)
           case e6q3=>simp only [lg,lz,ls] <;> rfl
           case k6q3 =>
             intro K hK
             go_simp
             obtain ⟨wz3,hv⟩:=eX (wz2.alloc (.cells #[.bool (decide (q.num<0)),.slice C103 (len q.num.natAbs) j103,.slice C104 (len q.den) j104] 39))
             have bb:=newb1 hv
             have Rb3:=hid (newz1 hv)
             have l3:Hid (wz2.heap.size<wz3.heap.size):=hid (at_lt Rb3.out)
             rw [←hv]
             clear hv
             have T3:=hid (T2.out.keep bb)
             refine hK.out _ _ ?_ (fun hHeld=>?_)
             · (try dsimp only);have k1:=cells3 T3.out.rx;have k2:=cells3 T3.out.ry;exact ⟨k1.1,k1.2.1,k1.2.2,k2.1,k2.2.1,k2.2.2⟩
             clear hK K bb
             try simp only [Act.put,lt,ly,lu]
             refine wpAnyH_ready (rs:=[7]) (by kernel_rfl) (by simp) (AllReadyH.cons (o:=?o7q4) ?e7q4 ?k7q4 AllReadyH.nil)
             case e7q4=>simp only [lg,lz,ls] <;> rfl
             case k7q4 =>
               intro K hK
               refine wp_push rfl (e:=39) Tryz.underlying24 infoRat liveRat rfl T3.out.gb rfl Rb3.out T3.out.ny hl56.out hlM.out T3.out.hb.size ?_
               intro p4 wz4 hG LV GR hO
               have T4:=hid (T3.out.pushB hG LV GR hO)
               refine hK.out _ _ ?_ (fun hHeld=>?_)
               · (try dsimp only);have k1:=cells3 T4.out.rx;have k2:=cells3 T4.out.ry;exact ⟨k1.1,k1.2.1,k1.2.2,k2.1,k2.2.1,k2.2.2⟩
               clear hK K hG LV GR hO
               try simp only [Act.put,lt,ly,lu]
               refine tk (i:=8) (h:=?_)
               try simp only [Act.put,lt,ly,lu]
               refine tk (i:=9) (h:=?_)
               try simp only [Act.put,lt,ly,lu]
               refine wpAnyH_done (by kernel_rfl) ?_ _
               clear hHeld
               have HR:=hid (T4.out.to hss.out h40.out hold.out (by rw [hq.out]) (by rw [hq.out]))
               clear T4
               go_wp2_with fail
               go_roundw
               case rel=>exact ⟨k+1,hk1,by go_num,HR⟩
               case measure=>simp [intOf];omega
         case k6q2 =>
           intro K hK
           go_simp
           obtain ⟨wz5,hv⟩:=eX (wz1.alloc (.cells #[.bool (decide (q.num<0)),.slice C103 (len q.num.natAbs) j103,.slice C104 (len q.den) j104] 39))
           have bb:=newb1 hv
           have Rb5:=hid (newz1 hv)
           have l5:Hid (wz1.heap.size<wz5.heap.size):=hid (at_lt Rb5.out)
           rw [←hv]
           clear hv
           have T5:=hid (T1.out.keep bb)
           have Ra15:=hid (at_keep Ra1.out bb)
           have ne5:Hid (∀ g,u5.ownBlock=some g→g=wz1.heap.size→False):=hid (fun g hg e=>absurd (T1.out.ga.own g hg).2 (by omega))
           refine hK.out _ _ ?_ (fun hHeld=>?_)
           · (try dsimp only);have k1:=cells3 T5.out.rx;have k2:=cells3 T5.out.ry;exact ⟨k1.1,k1.2.1,k1.2.2,k2.1,k2.2.1,k2.2.2⟩
           clear hK K bb
           try simp only [Act.put,lt,ly,lu]
           refine wpAnyH_ready (rs:=[3]) (by kernel_rfl) (by simp) (AllReadyH.cons (o:=?o3q5) ?e3q5 ?k3q5 AllReadyH.nil)
           case e3q5=>simp only [lg,lz,ls] <;> rfl
           case k3q5 =>
             intro K hK
             refine wp_push rfl (e:=31) Tryz.underlying23 infoNum liveNum rfl T5.out.ga rfl Ra15.out T5.out.nx hl56.out hlM.out T5.out.hb.size ?_
             intro p6 wz6 hG LV GR hO
             have T6:=hid (T5.out.pushA hG LV GR hO)
             have Rb56:=hid ((GR.block _ (at_lt Rb5.out) (fun e=>ne5.out _ e.symm rfl)).trans Rb5.out)
             refine hK.out _ _ ?_ (fun hHeld=>?_)
             · (try dsimp only);have k1:=cells3 T6.out.rx;have k2:=cells3 T6.out.ry;exact ⟨k1.1,k1.2.1,k1.2.2,k2.1,k2.2.1,k2.2.2⟩
             clear hK K hG LV GR hO
             try simp only [Act.put,lt,ly,lu]
             refine wpAnyH_ready (rs:=[7]) (by kernel_rfl) (by simp) (AllReadyH.cons (o:=?o7q6) ?e7q6 ?k7q6 AllReadyH.nil)
             case e7q6=>simp only [lg,lz,ls] <;> rfl
             case k7q6 =>
               intro K hK
               refine wp_push rfl (e:=39) Tryz.underlying24 infoRat liveRat rfl T6.out.gb rfl Rb56.out T6.out.ny hl56.out hlM.out T6.out.hb.size ?_
               intro p7 wz7 hG LV GR hO
               have T7:=hid (T6.out.pushB hG LV GR hO)
               refine hK.out _ _ ?_ (fun hHeld=>?_)
               · (try dsimp only);have k1:=cells3 T7.out.rx;have k2:=cells3 T7.out.ry;exact ⟨k1.1,k1.2.1,k1.2.2,k2.1,k2.2.1,k2.2.2⟩
               clear hK K hG LV GR hO
               try simp only [Act.put,lt,ly,lu]
               refine tk (i:=8) (h:=?_)
               try simp only [Act.put,lt,ly,lu]
               refine tk (i:=9) (h:=?_)
               try simp only [Act.put,lt,ly,lu]
               refine wpAnyH_done (by kernel_rfl) ?_ _
               clear hHeld
               have HR:=hid (T7.out.to hss.out h40.out hold.out (by rw [hq.out]) (by rw [hq.out]))
               clear T7
               go_wp2_with fail
               go_roundw
               case rel=>exact ⟨k+1,hk1,by go_num,HR⟩
               case measure=>simp [intOf];omega
       case k6q1 =>
         intro K hK
         go_simp
         obtain ⟨wz8,hv⟩:=eX (wz0.alloc (.cells #[.bool (decide (q.num<0)),.slice C103 (len q.num.natAbs) j103,.slice C104 (len q.den) j104] 39))
         have bb:=newb1 hv
         have Rb8:=hid (newz1 hv)
         have l8:Hid (wz0.heap.size<wz8.heap.size):=hid (at_lt Rb8.out)
         rw [←hv]
         clear hv
         have T8:=hid (T1.out.keep bb)
         have ne8:Hid (∀ g,u5.ownBlock=some g→g=wz0.heap.size→False):=hid (fun g hg e=>absurd (T1.out.ga.own g hg).2 (by omega))
         refine hK.out _ _ ?_ (fun hHeld=>?_)
         · (try dsimp only);have k1:=cells3 T8.out.rx;have k2:=cells3 T8.out.ry;exact ⟨k1.1,k1.2.1,k1.2.2,k2.1,k2.2.1,k2.2.2⟩
         clear hK K bb
         try simp only [Act.put,lt,ly,lu]
         refine wpAnyH_ready (rs:=[2]) (by kernel_rfl) (by simp) (AllReadyH.cons (o:=?o2q7) ?e2q7 ?k2q7 AllReadyH.nil)
         case e2q7=>simp only [lg,lz,ls] <;> rfl
         case k2q7 =>
           intro K hK
           go_simp
           obtain ⟨wz9,hv⟩:=eX (wz8.alloc (.cells #[.bool (decide (q.num<0)),.slice C101 (Vx.len q.num.natAbs) j101,.slice C102 (Vx.len (below q.den)) j102] 31))
           have bb:=newb1 hv
           have Ra9:=hid (newz1 hv)
           have l9:Hid (wz8.heap.size<wz9.heap.size):=hid (at_lt Ra9.out)
           rw [←hv]
           clear hv
           have T9:=hid (T8.out.keep bb)
           have Rb89:=hid (at_keep Rb8.out bb)
           refine hK.out _ _ ?_ (fun hHeld=>?_)
           · (try dsimp only);have k1:=cells3 T9.out.rx;have k2:=cells3 T9.out.ry;exact ⟨k1.1,k1.2.1,k1.2.2,k2.1,k2.2.1,k2.2.2⟩
           clear hK K bb
           try simp only [Act.put,lt,ly,lu]
           refine wpAnyH_ready (rs:=[3]) (by kernel_rfl) (by simp) (AllReadyH.cons (o:=?o3q8) ?e3q8 ?k3q8 AllReadyH.nil)
           case e3q8=>simp only [lg,lz,ls] <;> rfl
           case k3q8 =>
             intro K hK
             refine wp_push rfl (e:=31) Tryz.underlying23 infoNum liveNum rfl T9.out.ga rfl Ra9.out T9.out.nx hl56.out hlM.out T9.out.hb.size ?_
             intro p10 wz10 hG LV GR hO
             have T10:=hid (T9.out.pushA hG LV GR hO)
             have Rb8910:=hid ((GR.block _ (at_lt Rb89.out) (fun e=>ne8.out _ e.symm rfl)).trans Rb89.out)
             refine hK.out _ _ ?_ (fun hHeld=>?_)
             · (try dsimp only);have k1:=cells3 T10.out.rx;have k2:=cells3 T10.out.ry;exact ⟨k1.1,k1.2.1,k1.2.2,k2.1,k2.2.1,k2.2.2⟩
             clear hK K hG LV GR hO
             try simp only [Act.put,lt,ly,lu]
             refine wpAnyH_ready (rs:=[7]) (by kernel_rfl) (by simp) (AllReadyH.cons (o:=?o7q9) ?e7q9 ?k7q9 AllReadyH.nil)
             case e7q9=>simp only [lg,lz,ls] <;> rfl
             case k7q9 =>
               intro K hK
               refine wp_push rfl (e:=39) Tryz.underlying24 infoRat liveRat rfl T10.out.gb rfl Rb8910.out T10.out.ny hl56.out hlM.out T10.out.hb.size ?_
               intro p11 wz11 hG LV GR hO
               have T11:=hid (T10.out.pushB hG LV GR hO)
               refine hK.out _ _ ?_ (fun hHeld=>?_)
               · (try dsimp only);have k1:=cells3 T11.out.rx;have k2:=cells3 T11.out.ry;exact ⟨k1.1,k1.2.1,k1.2.2,k2.1,k2.2.1,k2.2.2⟩
               clear hK K hG LV GR hO
               try simp only [Act.put,lt,ly,lu]
               refine tk (i:=8) (h:=?_)
               try simp only [Act.put,lt,ly,lu]
               refine tk (i:=9) (h:=?_)
               try simp only [Act.put,lt,ly,lu]
               refine wpAnyH_done (by kernel_rfl) ?_ _
               clear hHeld
               have HR:=hid (T11.out.to hss.out h40.out hold.out (by rw [hq.out]) (by rw [hq.out]))
               clear T11
               go_wp2_with fail
               go_roundw
               case rel=>exact ⟨k+1,hk1,by go_num,HR⟩
               case measure=>simp [intOf];omega
   · obtain rfl:k=ss.length:=Nat.le_antisymm hk hkn
     have hin:decide (ss.length<ss.length)=false:=decide_eq_false (Nat.lt_irrefl _)
     have HF:=hid (hrel.out.ret hc.out)
     clear hrel hS hc
     go_wp2_with fail
     go_ret3
     exact HF.out
theorem numbers_1 {w:World} {ad:Option Addr} {c:Nat} {ss:List ByteArray} {mx:Int} (hS:StrsAt w ad ss) (h1:20<ss.length) (h2:ss.length≤200) (hn:ss.length≤9223372036854775807) (hM:w.cell? ⟨1,0,none⟩=some (.int .i64 mx)) :
   Calls Tryz.prog 7 #[.slice ad ss.length c] w (NumbersRet w ss):=by
 have d1:decide (((ss.length:Nat):Int)>20)=true:=decide_eq_true (by omega)
 have d1':(((ss.length:Nat):Int)>20):=by omega
 have d2:decide (((ss.length:Nat):Int)≤200)=true:=decide_eq_true (by omega)
 have d2':(((ss.length:Nat):Int)≤200):=by omega
 have b0:((ss.length:Nat):Int)≤9223372036854775807:=by omega
 have HF:=hid (show NumbersRet w ss (.returned (.tuple #[.slice none 0 0,.slice none 0 0,.bool false])) w from Or.inr ⟨fun h=>h.1 (by omega),rfl,Below.refl _ _⟩)
 clear hS hM h1 h2
 go_enter Tryz.func7,Tryz.ntmps7
 go_wp2_with fail
 go_ret3
 exact HF.out
theorem numbers_2 {w:World} {ad:Option Addr} {c:Nat} {ss:List ByteArray} {mx:Int} (hS:StrsAt w ad ss) (h1:210<ss.length) (h2:0≤ss.length) (hn:ss.length≤9223372036854775807) (hM:w.cell? ⟨1,0,none⟩=some (.int .i64 mx)) :
   Calls Tryz.prog 7 #[.slice ad ss.length c] w (NumbersRet w ss):=by
 have d1:decide (((ss.length:Nat):Int)>20)=true:=decide_eq_true (by omega)
 have d1':(((ss.length:Nat):Int)>20):=by omega
 have d2:decide (((ss.length:Nat):Int)≤200)=false:=decide_eq_false (by omega)
 have d2':¬ (((ss.length:Nat):Int)≤200):=by omega
 have d3:decide (((ss.length:Nat):Int)>210)=true:=decide_eq_true (by omega)
 have d3':(((ss.length:Nat):Int)>210):=by omega
 have b0:((ss.length:Nat):Int)≤9223372036854775807:=by omega
 have HF:=hid (show NumbersRet w ss (.returned (.tuple #[.slice none 0 0,.slice none 0 0,.bool false])) w from Or.inr ⟨fun h=>h.1 (by omega),rfl,Below.refl _ _⟩)
 clear hS hM h1 h2
 go_enter Tryz.func7,Tryz.ntmps7
 go_wp2_with fail
 go_ret3
 exact HF.out
theorem numbers_3 {w:World} {ad:Option Addr} {c:Nat} {ss:List ByteArray} {mx:Int} (hS:StrsAt w ad ss) (h1:ss.length≤20) (h2:0≤ss.length) (hn:ss.length≤9223372036854775807) (hM:w.cell? ⟨1,0,none⟩=some (.int .i64 mx)) :
   Calls Tryz.prog 7 #[.slice ad ss.length c] w (NumbersRet w ss):=by
 have d1:decide (((ss.length:Nat):Int)>20)=false:=decide_eq_false (by omega)
 have d1':¬ (((ss.length:Nat):Int)>20):=by omega
 have d3:decide (((ss.length:Nat):Int)>210)=false:=decide_eq_false (by omega)
 have d3':¬ (((ss.length:Nat):Int)>210):=by omega
 have b0:((ss.length:Nat):Int)≤9223372036854775807:=by omega
 have hc:=hid (show ¬ (20<ss.length∧ss.length≤200∨210<ss.length) by omega)
 have hl:=hid (show ss.length≤1000 by omega)
 replace hS:=hid hS
 replace hM:=hid hM
 clear h1 h2
 go_enter Tryz.func7,Tryz.ntmps7
 go_upto_region 1 with fail
 rename_i G hG Gb hGb
 replace hG:=hid hG
 go_wp2_with fail
 refine hG.out _ _ ?_
 exact numbers_back hS.out hc.out hl.out hM.out
theorem numbers_4 {w:World} {ad:Option Addr} {c:Nat} {ss:List ByteArray} {mx:Int} (hS:StrsAt w ad ss) (h1:200<ss.length) (h2:ss.length≤210) (hn:ss.length≤9223372036854775807) (hM:w.cell? ⟨1,0,none⟩=some (.int .i64 mx)) :
   Calls Tryz.prog 7 #[.slice ad ss.length c] w (NumbersRet w ss):=by
 have d1:decide (((ss.length:Nat):Int)>20)=true:=decide_eq_true (by omega)
 have d1':(((ss.length:Nat):Int)>20):=by omega
 have d2:decide (((ss.length:Nat):Int)≤200)=false:=decide_eq_false (by omega)
 have d2':¬ (((ss.length:Nat):Int)≤200):=by omega
 have d3:decide (((ss.length:Nat):Int)>210)=false:=decide_eq_false (by omega)
 have d3':¬ (((ss.length:Nat):Int)>210):=by omega
 have b0:((ss.length:Nat):Int)≤9223372036854775807:=by omega
 have hc:=hid (show ¬ (20<ss.length∧ss.length≤200∨210<ss.length) by omega)
 have hl:=hid (show ss.length≤1000 by omega)
 replace hS:=hid hS
 replace hM:=hid hM
 clear h1 h2
 go_enter Tryz.func7,Tryz.ntmps7
 go_upto_region 1 with fail
 rename_i G hG Gb hGb
 replace hG:=hid hG
 go_wp2_with fail
 refine hG.out _ _ ?_
 exact numbers_back hS.out hc.out hl.out hM.out
theorem numbers_any {w:World} {ad:Option Addr} {c:Nat} {ss:List ByteArray} {mx:Int} (hS:StrsAt w ad ss) (hn:ss.length≤9223372036854775807) (hM:w.cell? ⟨1,0,none⟩=some (.int .i64 mx)) :
   Calls Tryz.prog 7 #[.slice ad ss.length c] w (NumbersRet w ss):=by
 rcases Decidable.em (ss.length≤20) with h | h
 · exact numbers_3 hS h (Nat.zero_le _) hn hM
 · rcases Decidable.em (ss.length≤200) with k | k
   · exact numbers_1 hS (by omega) k hn hM
   · rcases Decidable.em (ss.length≤210) with j | j
     · exact numbers_4 hS (by omega) j hn hM
     · exact numbers_2 hS (by omega) (Nat.zero_le _) hn hM
end Go.Proofs.YtlcimajjnfbidaaGreatDoor.Rf
namespace Go.Proofs.YtlcimajjnfbidaaGreatDoor.Rf
open Lib (hid)
open Go.RowKit
open Rx
open Vx (siz siz_num siz_den)
open List renaming getElem?_toArray → lg, getElem?_cons_zero → lz, getElem?_cons_succ → ls, setIfInBounds_toArray → lt, set_cons_zero → ly, set_cons_succ → lu
def sumL (l:List Rat):Rat:=l.foldl (· + ·) 0
theorem sumL_step {l:List Rat} {k:Nat} {q:Rat} (h:l[k]?=some q):sumL (l.take k)+q=sumL (l.take (k+1)):=by
 rw [List.take_add_one,h,Option.toList_some]
 simp [sumL]
theorem sumL_siz {l:List Rat} {N:Nat} (h:∀ y∈l,siz y≤N):∀ k,siz (sumL (l.take k))≤3+k*(N+1):=by
 intro k
 induction k with
 | zero =>
   simp only [List.take_zero,sumL,List.foldl_nil]
   have h0:siz (0:Rat)≤3:=by decide +kernel
   omega
 | succ k ih =>
   rcases hq:l[k]? with _ | q
   · have:l.take (k+1)=l.take k:=by rw [List.take_add_one,hq];simp
     rw [this,Nat.succ_mul];omega
   · rw [←sumL_step hq,Nat.succ_mul]
     have h1:=Vx.siz_add (sumL (l.take k)) q
     have h2:=h q (List.mem_of_getElem? hq)
     omega
def prods (l m:List Rat):List Rat:=List.zipWith (· * ·) l m
theorem prods_get {l m:List Rat} {k:Nat} {x y:Rat} (hx:l[k]?=some x) (hy:m[k]?=some y):(prods l m)[k]?=some (x*y):=by
 simp [prods,List.getElem?_zipWith,hx,hy]
theorem prods_siz {l m:List Rat} {N:Nat} (h:∀ y∈l,siz y≤N) (h':∀ y∈m,siz y≤N):∀ y∈prods l m,siz y≤N+N:=by
 intro y hy
 obtain ⟨k,hk⟩:=List.mem_iff_getElem?.1 hy
 simp only [prods,List.getElem?_zipWith] at hk
 rcases e1:l[k]? with _ | a
 · simp [e1] at hk
 · rcases e2:m[k]? with _ | b
   · simp [e1,e2] at hk
   · simp only [e1,e2,Option.some.injEq] at hk
     subst hk
     have h1:=h a (List.mem_of_getElem? e1)
     have h2:=h' b (List.mem_of_getElem? e2)
     have:=Vx.siz_mul a b
     omega
theorem NumsAt.stay {w w':World} {b o B:Nat} {l:List Rat} (h:NumsAt w b o l) (hne:b≠B) (hO:∀ (n:Nat) (x:Obj),n≠B→w.heap[n]?=some x→w'.heap[n]?=some x) (hL:Live w w'):NumsAt w' b o l:=by
 intro i q hi
 obtain ⟨s,A1,n1,c1,A2,n2,c2,h0,h1,h2,h3⟩:=h i q hi
 have hl:=World.block_lt_of_cell? w _ h0
 have he:w'.heap[b]?=w.heap[b]?:=by
   have:w.heap[b]?=some w.heap[b]:=by simp [hl]
   rw [hO b _ hne this,this]
 exact ⟨s,A1,n1,c1,A2,n2,c2,(World.cell?_of_block he).trans h0,(World.cell?_of_block he).trans h1,(World.cell?_of_block he).trans h2,hL.num h3⟩
theorem RatsIn.stay {w w':World} {b o B:Nat} {l:List Rat} (h:RatsIn w b o l) (hne:b≠B) (hO:∀ (n:Nat) (x:Obj),n≠B→w.heap[n]?=some x→w'.heap[n]?=some x) (hL:Live w w'):RatsIn w' b o l:=by
 intro i q hi
 obtain ⟨s,A1,n1,c1,A2,n2,c2,h0,h1,h2,h3⟩:=h i q hi
 have hl:=World.block_lt_of_cell? w _ h0
 have he:w'.heap[b]?=w.heap[b]?:=by
   have:w.heap[b]?=some w.heap[b]:=by simp [hl]
   rw [hO b _ hne this,this]
 exact ⟨s,A1,n1,c1,A2,n2,c2,(World.cell?_of_block he).trans h0,(World.cell?_of_block he).trans h1,(World.cell?_of_block he).trans h2,hL.rat h3⟩
end Go.Proofs.YtlcimajjnfbidaaGreatDoor.Rf
namespace Go.Proofs.YtlcimajjnfbidaaGreatDoor.Rf
open Lib (hid)
open Go.RowKit
open Rx
open Vx (siz siz_num siz_den)
open List renaming getElem?_toArray → lg, getElem?_cons_zero → lz, getElem?_cons_succ → ls, setIfInBounds_toArray → lt, set_cons_zero → ly, set_cons_succ → lu
def DotN (w:World) (p1 o1 p2 o2 B:Nat) (l m:List Rat) (k:Nat) (wr:World):Prop :=
  ∃ s1 A1 n1 c1 A2 n2 c2,wr.heap[B]?=some (.cells #[.bool s1,.slice A1 n1 c1,.slice A2 n2 c2] 31 (0,0))∧IsNum wr (.agg #[.bool s1,.slice A1 n1 c1,.slice A2 n2 c2]) (sumL ((prods l m).take k)) ∧
    NumsAt wr p1 o1 l∧NumsAt wr p2 o2 m∧wr.heap[w.heap.size]?=some (.cells #[.bool false,.slice none 0 0,.slice none 0 0] 31 (0,0))∧Below w.heap.size w wr∧w.heap.size<B
theorem dot_any {w:World} {p1 o1 c1 p2 o2 c2:Nat} {l m:List Rat} {s:Rat} (es:sumL (prods l m)=s) (hl:NumsAt w p1 o1 l) (hm:NumsAt w p2 o2 m) (hlen:l.length=m.length) (hn:l.length≤200) (hs:∀ y∈l,siz y≤100000) (ht:∀ y∈m,siz y≤100000) :
   Calls Tryz.prog 10 #[.slice (some ⟨p1,o1,none⟩) l.length c1,.slice (some ⟨p2,o2,none⟩) m.length c2] w (NumErrRet w s 0):=by
 have HS:=hid (sumL_siz (prods_siz hs ht))
 have HQ:=hid (fun q (hq:q∈l)=>hs q hq)
 have HP:=hid (fun q (hq:q∈m)=>ht q hq)
 clear hs ht
 replace es:=hid es
 replace hl:=hid hl
 replace hm:=hid hm
 have hlen2:((l.length:Nat):Int)≤200:=by omega
 have i0:decide (((l.length:Nat):Int)>200)=false:=decide_eq_false (by omega)
 have i9:¬ ((l.length:Nat):Int)>200:=by omega
 obtain ⟨w1,hw1⟩:=eX ((w.alloc (.cells #[.bool false,.slice none 0 0,.slice none 0 0] 31)))
 have b1:=alloc_below w (.cells #[.bool false,.slice none 0 0,.slice none 0 0] 31)
 have g1:=heap_alloc_new w (.cells #[.bool false,.slice none 0 0,.slice none 0 0] 31)
 rw [←hw1] at b1 g1
 replace b1:=hid b1
 replace g1:=hid g1
 go_enter Tryz.func10,Tryz.ntmps10
 go_upto_region 1 with fail
 rw [←hw1]
 clear hw1
 go_upto_region 6 with fail
 obtain ⟨w2,hw2⟩:=eX ((w1.alloc (.cells #[.bool false,.slice none 0 0,.slice none 0 0] 31)))
 have b2:=hid (newb1 hw2)
 have L2:=hid (newz1 hw2)
 rw [←hw2]
 clear hw2
 have y0_2:=hid (Below.step b1.out b2.out)
 obtain ⟨B,hB⟩:=eY w1.heap.size
 have hGB:w.heap.size<B:=by rw [←hB];exact at_lt (at_keep g1.out (Below.refl _ w1))
 have HE:Hid (DotN w p1 o1 p2 o2 B l m 0 w2):=hid ⟨_,_,_,_,_,_,_,by rw [←hB];exact L2.out,(zero_num w2),hl.out.keep y0_2.out,hm.out.keep y0_2.out,at_keep g1.out b2.out,y0_2.out,hGB⟩
 rw [hB]
 clear hB L2 g1
 have hb1:l.length=0∨p1<w.heap.size:=by
   rcases Nat.eq_zero_or_pos l.length with h | h
   · exact Or.inl h
   · obtain ⟨_,_,_,_,_,_,_,y0,_⟩:=hl.out 0 l[0] (by simp [h]);exact Or.inr (World.block_lt_of_cell? w _ y0)
 have hb2:l.length=0∨p2<w.heap.size:=by
   rcases Nat.eq_zero_or_pos l.length with h | h
   · exact Or.inl h
   · obtain ⟨_,_,_,_,_,_,_,y0,_⟩:=hm.out 0 (m[0]'(by omega)) (by simp);exact Or.inr (World.block_lt_of_cell? w _ y0)
 clear hl hm
 go_wp2_with fail
 go_loopw [26] (fun iv wr=>∃ k:Nat,k≤l.length∧iv=.int .i64 ((k:Nat):Int)∧Hid (DotN w p1 o1 p2 o2 B l m k wr)) (fun iv _=>l.length - (intOf iv).toNat)
 case atStart=>exact ⟨0,Nat.zero_le _,rfl,HE⟩
 case round =>
   obtain ⟨k,hk,rfl,hrel⟩:=hrel
   clear HE
   obtain ⟨s1,A1,n1,c1,A2,n2,c2,g5,hv,hR1,hR2,gR,hbw,-⟩:=hrel.out
   clear hrel
   obtain ⟨a,ha⟩:=eY (sumL ((prods l m).take k))
   have ta:=HS.out k
   rw [ha] at hv ta
   rcases Nat.lt_or_ge k l.length with hkn | hkn
   · obtain ⟨x,hx⟩:∃ q,l[k]?=some q:=⟨l[k],by simp [hkn]⟩
     obtain ⟨y,hy⟩:∃ q,m[k]?=some q:=⟨m[k]'(by omega),by simp⟩
     have tx:=HQ.out x (List.mem_of_getElem? hx)
     have ty:=HP.out y (List.mem_of_getElem? hy)
     obtain ⟨p,hp⟩:=eY (x*y)
     have tp:siz p≤200000:=by rw [←hp];have:=Vx.siz_mul x y;omega
     have E1:=sumL_step (prods_get hx hy)
     rw [ha,hp] at E1
     obtain ⟨a2,ea2⟩:=eY (sumL ((prods l m).take (k+1)))
     rw [ea2] at E1
     have ta':siz a≤210000000:=by
       have:=Nat.mul_le_mul_right (200000+1) (show k≤1000 by omega)
       omega
     obtain ⟨s5,A5,n5,c5,A6,n6,c6,y0,y1,y2,hxq⟩:=hR1 k x hx
     obtain ⟨s7,A7,n7,c7,A8,n8,c8,z0,z1,z2,hyq⟩:=hR2 k y hy
     obtain ⟨q0,q1,q2⟩:=cells3 g5
     obtain ⟨u,hu⟩:=eY (o1+k*3)
     obtain ⟨v,hv2⟩:=eY (o2+k*3)
     rw [hu] at y0 y1 y2
     rw [hv2] at z0 z1 z2
     have hBl:B<wr.heap.size:=at_lt g5
     have hbl1:p1<wr.heap.size:=Nat.lt_of_lt_of_le (by omega) hbw.size
     have hbl2:p2<wr.heap.size:=Nat.lt_of_lt_of_le (by omega) hbw.size
     have hin:decide (k<l.length)=true:=decide_eq_true hkn
     have hinm:decide (k<m.length)=true:=decide_eq_true (by omega)
     have hkm:k<m.length:=by omega
     have tx':siz x≤536870912:=by omega
     have ty':siz y≤536870912:=by omega
     have tA:siz a≤268435456:=by omega
     have tA':siz a≤536870912:=by omega
     have tP:siz p≤268435456:=by omega
     have tP':siz p≤536870912:=by omega
     have tX:siz x≤268435456:=by omega
     have tY:siz y≤268435456:=by omega
     clear ha ta ta' tx ty tp hx hy
     replace hv:=hid hv
     replace hxq:=hid hxq
     replace hyq:=hid hyq
     replace g5:=hid g5
     replace hR1:=hid hR1
     replace hR2:=hid hR2
     replace gR:=hid gR
     replace hbw:=hid hbw
     replace hp:=hid hp
     replace E1:=hid E1
     replace ea2:=hid ea2
     go_upto_region 9 with fail
     obtain ⟨w91,hw91⟩:=eX (wr.alloc (.cells #[.bool s5,.slice A5 n5 c5,.slice A6 n6 c6] 31))
     have b91:=hid (newb1 hw91)
     have L91:=newz1 hw91
     rw [←hw91]
     clear hw91
     obtain ⟨D,hD⟩:=eY wr.heap.size
     have hDl:D<w91.heap.size:=by rw [←hD];exact at_lt L91
     rw [hD] at L91
     obtain ⟨x0,x1,x2⟩:=cells3 L91
     rw [hD]
     clear L91 hD
     rw [←(b91.out.cell (p:=⟨B,0,none⟩) hBl)] at q0
     rw [←(b91.out.cell (p:=⟨B,1,none⟩) hBl)] at q1
     rw [←(b91.out.cell (p:=⟨B,2,none⟩) hBl)] at q2
     rw [←(b91.out.cell (p:=⟨p2,v,none⟩) hbl2)] at z0
     rw [←(b91.out.cell (p:=⟨p2,v+1,none⟩) hbl2)] at z1
     rw [←(b91.out.cell (p:=⟨p2,v+2,none⟩) hbl2)] at z2
     replace hBl:=Nat.lt_of_lt_of_le hBl b91.out.size
     replace hbl2:=Nat.lt_of_lt_of_le hbl2 b91.out.size
     clear y0 y1 y2 hbl1
     go_wp2_with fail
     refine region_late (s:=8) (S:=(fun w'=>(w'.cell? ⟨B,0,none⟩=w91.cell? ⟨B,0,none⟩∧w'.cell? ⟨B,1,none⟩=w91.cell? ⟨B,1,none⟩∧w'.cell? ⟨B,2,none⟩=w91.cell? ⟨B,2,none⟩∧w'.cell? ⟨D,0,none⟩=w91.cell? ⟨D,0,none⟩∧w'.cell? ⟨D,1,none⟩=w91.cell? ⟨D,1,none⟩∧w'.cell? ⟨D,2,none⟩=w91.cell? ⟨D,2,none⟩∧w'.cell? ⟨p2,v,none⟩=w91.cell? ⟨p2,v,none⟩∧w'.cell? ⟨p2,v+1,none⟩=w91.cell? ⟨p2,v+1,none⟩∧w'.cell? ⟨p2,v+2,none⟩=w91.cell? ⟨p2,v+2,none⟩))) (by kernel_rfl) (by rfl) (by rfl) (by kernel_rfl) ?_
     simp only [idle,lt,ly,lu]
     have hHeld:(fun w'=>(w'.cell? ⟨B,0,none⟩=w91.cell? ⟨B,0,none⟩∧w'.cell? ⟨B,1,none⟩=w91.cell? ⟨B,1,none⟩∧w'.cell? ⟨B,2,none⟩=w91.cell? ⟨B,2,none⟩∧w'.cell? ⟨D,0,none⟩=w91.cell? ⟨D,0,none⟩∧w'.cell? ⟨D,1,none⟩=w91.cell? ⟨D,1,none⟩∧w'.cell? ⟨D,2,none⟩=w91.cell? ⟨D,2,none⟩∧w'.cell? ⟨p2,v,none⟩=w91.cell? ⟨p2,v,none⟩∧w'.cell? ⟨p2,v+1,none⟩=w91.cell? ⟨p2,v+1,none⟩∧w'.cell? ⟨p2,v+2,none⟩=w91.cell? ⟨p2,v+2,none⟩)) w91:=⟨rfl,rfl,rfl,rfl,rfl,rfl,rfl,rfl,rfl⟩
     obtain ⟨w92,hw92⟩:=eX w91.drew
     have b92:Hid (Below w91.heap.size w91 w92):=hid (by rw [hw92];exact ⟨rfl,rfl,rfl,Nat.le_refl _,fun _ _=>rfl⟩)
     replace hHeld:(fun w'=>(w'.cell? ⟨B,0,none⟩=w91.cell? ⟨B,0,none⟩∧w'.cell? ⟨B,1,none⟩=w91.cell? ⟨B,1,none⟩∧w'.cell? ⟨B,2,none⟩=w91.cell? ⟨B,2,none⟩∧w'.cell? ⟨D,0,none⟩=w91.cell? ⟨D,0,none⟩∧w'.cell? ⟨D,1,none⟩=w91.cell? ⟨D,1,none⟩∧w'.cell? ⟨D,2,none⟩=w91.cell? ⟨D,2,none⟩∧w'.cell? ⟨p2,v,none⟩=w91.cell? ⟨p2,v,none⟩∧w'.cell? ⟨p2,v+1,none⟩=w91.cell? ⟨p2,v+1,none⟩∧w'.cell? ⟨p2,v+2,none⟩=w91.cell? ⟨p2,v+2,none⟩)) w92:=by rw [hw92];exact hHeld
     rw [←hw92]
     clear hw92
     refine tk (i:=0) (h:=?_)
     try simp only [Act.put,lt,ly,lu]
     refine tk (i:=1) (h:=?_)
     try simp only [Act.put,lt,ly,lu]
     refine tk (i:=2) (h:=?_)
     try simp only [Act.put,lt,ly,lu]
     refine tk (i:=3) (h:=?_)
     try simp only [Act.put,lt,ly,lu]
     refine tk (i:=4) (h:=?_)
     try simp only [Act.put,lt,ly,lu]
     refine tk (i:=5) (h:=?_)
     try simp only [Act.put,lt,ly,lu]
     have y90_92:=hid (Below.step b91.out b92.out)
     refine wpAnyH_ready (rs:=[6]) (by kernel_rfl) (by simp) (AllReadyH.cons (o:=?oq19) ?eq19 ?kq19 AllReadyH.nil)
     case eq19=>simp only [lg,lz,ls];rfl
     intro K hK;go_simp;go_at_call 46
     refine (mul_val' hp.out (hxq.out.keep y90_92.out) (hyq.out.keep y90_92.out) tx' ty').mono ?_
     rintro e w93 ⟨v93,rfl,hv93,b93⟩
     obtain ⟨C31,j31,C32,j32,rfl,-,-⟩:=id hv93.opened
     replace hv93:=hid hv93
     replace b93:=hid b93
     have y91_93:=hid (Below.step b92.out b93.out)
     have hS:=y91_93.out
     clear hHeld
     refine hK.out _ _ ?_ (fun hHeld=>?_)
     · (try dsimp only)
       exact ⟨hS.cell (p:=⟨B,0,none⟩) hBl,hS.cell (p:=⟨B,1,none⟩) hBl,hS.cell (p:=⟨B,2,none⟩) hBl,hS.cell (p:=⟨D,0,none⟩) hDl,hS.cell (p:=⟨D,1,none⟩) hDl,hS.cell (p:=⟨D,2,none⟩) hDl,hS.cell (p:=⟨p2,v,none⟩) hbl2,hS.cell (p:=⟨p2,v+1,none⟩) hbl2,hS.cell (p:=⟨p2,v+2,none⟩) hbl2⟩
     clear hK K hS;try simp only [Act.put,lt,ly,lu]
     have y90_93:=hid (Below.step y90_92.out b93.out)
     refine wpAnyH_ready (rs:=[7]) (by kernel_rfl) (by simp) (AllReadyH.cons (o:=?oq20) ?eq20 ?kq20 AllReadyH.nil)
     case eq20=>simp only [lg,lz,ls];rfl
     intro K hK;go_simp;go_at_call 45
     refine (add_val E1.out (hv.out.keep y90_93.out) hv93.out tA' tP').mono ?_
     rintro e w94 ⟨v94,rfl,hv94,b94⟩
     obtain ⟨C33,j33,C34,j34,rfl,-,-⟩:=id hv94.opened
     replace hv94:=hid hv94
     replace b94:=hid b94
     have y91_94:=hid (Below.step y91_93.out b94.out)
     have hS:=y91_94.out
     clear hHeld
     refine hK.out _ _ ?_ (fun hHeld=>?_)
     · (try dsimp only)
       exact ⟨hS.cell (p:=⟨B,0,none⟩) hBl,hS.cell (p:=⟨B,1,none⟩) hBl,hS.cell (p:=⟨B,2,none⟩) hBl,hS.cell (p:=⟨D,0,none⟩) hDl,hS.cell (p:=⟨D,1,none⟩) hDl,hS.cell (p:=⟨D,2,none⟩) hDl,hS.cell (p:=⟨p2,v,none⟩) hbl2,hS.cell (p:=⟨p2,v+1,none⟩) hbl2,hS.cell (p:=⟨p2,v+2,none⟩) hbl2⟩
     clear hK K hS;try simp only [Act.put,lt,ly,lu]
     refine tk (i:=8) (h:=?_)
     try simp only [Act.put,lt,ly,lu]
     refine wpAnyH_done (by kernel_rfl) ?_ _
     clear hHeld x0 x1 x2 z0 z1 z2 q0 q1 q2
     have y90_94:=hid (Below.step y90_93.out b94.out)
     have DB:=at_keep g5.out y90_94.out
     have q0:=cell_of_row _ _ 0 _ _ _ DB
     have F0:=frozen_of_row w94 B 0 _ _ DB
     have q1:=cell_of_row _ _ 1 _ _ _ DB
     have F1:=frozen_of_row w94 B 1 _ _ DB
     have q2:=cell_of_row _ _ 2 _ _ _ DB
     have F2:=frozen_of_row w94 B 2 _ _ DB
     simp only [lg,lz,ls] at q0 q1 q2
     obtain ⟨ue,hw⟩:=eX ((((w94.setCell ⟨B,0,none⟩ (.bool (decide (a2.num<0)))).setCell ⟨B,1,none⟩ (.slice C33 (Vx.len a2.num.natAbs) j33)).setCell ⟨B,2,none⟩ (.slice C34 (Vx.len (below a2.den)) j34)))
     obtain ⟨E,OT,LV,BL⟩:=stored3 DB hw
     have FIN:Hid (DotN w p1 o1 p2 o2 B l m (k+1) ue):=hid ⟨_,_,_,_,_,_,_,E,by rw [ea2.out];exact LV.num hv94.out,(hR1.out.keep y90_94.out).stay (by omega) OT LV,(hR2.out.keep y90_94.out).stay (by omega) OT LV,OT _ _ (by omega) (at_keep gR.out y90_94.out),BL _ _ (by omega) (chain hbw.out y90_94.out),hGB⟩
     refine late_do (by rfl) (by rfl) ?_
     clear DB E OT LV BL
     go_simp
     rw [←hw]
     clear hw q0 q1 q2 F0 F1 F2
     go_wp2_with fail
     go_roundw
     case rel=>exact ⟨k+1,hkn,by go_num,FIN⟩
     case measure=>simp [intOf];omega
   · obtain rfl:k=l.length:=Nat.le_antisymm hk hkn
     have e9:(prods l m).take l.length=prods l m:=List.take_of_length_le (by simp [prods];omega)
     rw [e9] at ha
     have hm2:=ha.symm.trans es.out
     subst hm2
     obtain ⟨z0,z1,z2⟩:=cells3 g5
     have q0:=cell_of_row _ _ 0 _ _ _ gR
     have q1:=cell_of_row _ _ 1 _ _ _ gR
     have q2:=cell_of_row _ _ 2 _ _ _ gR
     have F0:=frozen_of_row wr w.heap.size 0 _ _ gR
     have F1:=frozen_of_row wr w.heap.size 1 _ _ gR
     have F2:=frozen_of_row wr w.heap.size 2 _ _ gR
     simp only [lg,lz,ls] at q0 q1 q2
     obtain ⟨ue,hw⟩:=eX ((((wr.setCell ⟨w.heap.size,0,none⟩ (.bool s1)).setCell ⟨w.heap.size,1,none⟩ (.slice A1 n1 c1)).setCell ⟨w.heap.size,2,none⟩ (.slice A2 n2 c2)))
     obtain ⟨E,-,LV,BL⟩:=stored3 gR hw
     have FE:=hid (LV.num hv)
     have FB:=hid (BL _ _ (Nat.le_refl _) hbw)
     replace E:=hid E
     replace hw:=hid hw
     clear ha es HS HQ HP hv hR1 hR2 gR hbw g5 BL LV ta e9
     go_wp2_with fail
     rw [←hw.out]
     obtain ⟨r0,r1,r2⟩:=cells3 E.out
     refine bodyPost_ret (v:=.tuple #[.agg #[.bool s1,.slice A1 n1 c1,.slice A2 n2 c2],.int .i64 0]) ?_ rfl ⟨_,rfl,FE.out,FB.out⟩
     simp [results,Tryz.results10,go_sem,r0,r1,r2]
end Go.Proofs.YtlcimajjnfbidaaGreatDoor.Rf
namespace Go.Proofs.YtlcimajjnfbidaaGreatDoor.Rf
open Lib (hid)
open Go.RowKit
open Rx
open Vx (siz siz_num siz_den)
open List renaming getElem?_toArray → lg, getElem?_cons_zero → lz, getElem?_cons_succ → ls, setIfInBounds_toArray → lt, set_cons_zero → ly, set_cons_succ → lu
def DotR (w:World) (p1 o1 p2 o2 B:Nat) (l m:List Rat) (k:Nat) (wr:World):Prop :=
  ∃ s1 A1 n1 c1 A2 n2 c2,wr.heap[B]?=some (.cells #[.bool s1,.slice A1 n1 c1,.slice A2 n2 c2] 39 (0,0))∧IsRat wr (.agg #[.bool s1,.slice A1 n1 c1,.slice A2 n2 c2]) (sumL ((prods l m).take k)) ∧
    RatsIn wr p1 o1 l∧RatsIn wr p2 o2 m∧wr.heap[w.heap.size]?=some (.cells #[.bool false,.slice none 0 0,.slice none 0 0] 39 (0,0))∧Below w.heap.size w wr∧w.heap.size<B
theorem dotR_any {w:World} {p1 o1 c1 p2 o2 c2:Nat} {l m:List Rat} {s:Rat} (es:sumL (prods l m)=s) (hl:RatsIn w p1 o1 l) (hm:RatsIn w p2 o2 m) (hlen:l.length=m.length) (hn:l.length≤1000) (hs:∀ y∈l,siz y≤100000) (ht:∀ y∈m,siz y≤100000) :
   Calls Tryz.prog 14 #[.slice (some ⟨p1,o1,none⟩) l.length c1,.slice (some ⟨p2,o2,none⟩) m.length c2] w (RatRet w s):=by
 have HS:=hid (sumL_siz (prods_siz hs ht))
 have HQ:=hid (fun q (hq:q∈l)=>hs q hq)
 have HP:=hid (fun q (hq:q∈m)=>ht q hq)
 clear hs ht
 replace es:=hid es
 replace hl:=hid hl
 replace hm:=hid hm
 obtain ⟨w1,hw1⟩:=eX ((w.alloc (.cells #[.bool false,.slice none 0 0,.slice none 0 0] 39)))
 have b1:=alloc_below w (.cells #[.bool false,.slice none 0 0,.slice none 0 0] 39)
 have g1:=heap_alloc_new w (.cells #[.bool false,.slice none 0 0,.slice none 0 0] 39)
 rw [←hw1] at b1 g1
 replace g1:=hid g1
 replace b1:=hid b1
 go_enter Tryz.func14,Tryz.ntmps14
 go_upto_region 1 with fail
 rw [←hw1]
 clear hw1
 obtain ⟨z0,ez0⟩:=eY (((0:Int):Rat):Rat)
 have e00:z0=0:=by rw [←ez0];rfl
 replace e00:=hid e00
 replace ez0:=hid ez0
 have HX:=hid (int_any (w:=w1) ez0.out (by omega) (by omega))
 go_wp2_with fail
 refine (HX.out).mono ?_
 rintro e w2 ⟨v2,rfl,hv2,b2⟩
 obtain ⟨C1,j1,C2,j2,rfl,-,-⟩:=id hv2.opened
 replace hv2:=hid hv2
 replace b2:=hid b2
 clear HX
 go_upto_region 2 with fail
 obtain ⟨w3,hw3⟩:=eX (w2.alloc (.cells #[.bool (decide (z0.num<0)),.slice C1 (len z0.num.natAbs) j1,.slice C2 (len z0.den) j2] 39))
 have b3:=hid (newb1 hw3)
 have L3:=hid (newz1 hw3)
 rw [←hw3]
 clear hw3
 have y0_3:=hid (Below.step (Below.step b1.out b2.out) b3.out)
 have y1_3:=hid (Below.step b2.out b3.out)
 obtain ⟨B,hB⟩:=eY w2.heap.size
 have hGB:w.heap.size<B:=by rw [←hB];exact at_lt (at_keep g1.out b2.out)
 have HE:Hid (DotR w p1 o1 p2 o2 B l m 0 w3):=hid ⟨_,_,_,_,_,_,_,by rw [←hB];exact L3.out,(by rw [show sumL ((prods l m).take 0)=z0 from e00.out.symm];exact (hv2.out.keep b3.out)),hl.out.keep y0_3.out,hm.out.keep y0_3.out,at_keep g1.out y1_3.out,y0_3.out,hGB⟩
 rw [hB]
 clear hB L3 g1
 have hb1:l.length=0∨p1<w.heap.size:=by
   rcases Nat.eq_zero_or_pos l.length with h | h
   · exact Or.inl h
   · obtain ⟨_,_,_,_,_,_,_,y0,_⟩:=hl.out 0 l[0] (by simp [h]);exact Or.inr (World.block_lt_of_cell? w _ y0)
 have hb2:l.length=0∨p2<w.heap.size:=by
   rcases Nat.eq_zero_or_pos l.length with h | h
   · exact Or.inl h
   · obtain ⟨_,_,_,_,_,_,_,y0,_⟩:=hm.out 0 (m[0]'(by omega)) (by simp);exact Or.inr (World.block_lt_of_cell? w _ y0)
 clear hl hm
 go_wp2_with fail
 go_loopw [6] (fun iv wr=>∃ k:Nat,k≤l.length∧iv=.int .i64 ((k:Nat):Int)∧Hid (DotR w p1 o1 p2 o2 B l m k wr)) (fun iv _=>l.length - (intOf iv).toNat)
 case atStart=>exact ⟨0,Nat.zero_le _,rfl,HE⟩
 case round =>
   obtain ⟨k,hk,rfl,hrel⟩:=hrel
   clear HE
   obtain ⟨s1,A1,n1,c1,A2,n2,c2,g5,hv,hR1,hR2,gR,hbw,-⟩:=hrel.out
   clear hrel
   obtain ⟨a,ha⟩:=eY (sumL ((prods l m).take k))
   have ta:=HS.out k
   rw [ha] at hv ta
   rcases Nat.lt_or_ge k l.length with hkn | hkn
   · obtain ⟨x,hx⟩:∃ q,l[k]?=some q:=⟨l[k],by simp [hkn]⟩
     obtain ⟨y,hy⟩:∃ q,m[k]?=some q:=⟨m[k]'(by omega),by simp⟩
     have tx:=HQ.out x (List.mem_of_getElem? hx)
     have ty:=HP.out y (List.mem_of_getElem? hy)
     obtain ⟨p,hp⟩:=eY (x*y)
     have tp:siz p≤200000:=by rw [←hp];have:=Vx.siz_mul x y;omega
     have E1:=sumL_step (prods_get hx hy)
     rw [ha,hp] at E1
     obtain ⟨a2,ea2⟩:=eY (sumL ((prods l m).take (k+1)))
     rw [ea2] at E1
     have ta':siz a≤210000000:=by
       have:=Nat.mul_le_mul_right (200000+1) (show k≤1000 by omega)
       omega
     obtain ⟨s5,A5,n5,c5,A6,n6,c6,y0,y1,y2,hxq⟩:=hR1 k x hx
     obtain ⟨s7,A7,n7,c7,A8,n8,c8,z0,z1,z2,hyq⟩:=hR2 k y hy
     obtain ⟨q0,q1,q2⟩:=cells3 g5
     obtain ⟨u,hu⟩:=eY (o1+k*3)
     obtain ⟨v,hv2⟩:=eY (o2+k*3)
     rw [hu] at y0 y1 y2
     rw [hv2] at z0 z1 z2
     have hBl:B<wr.heap.size:=at_lt g5
     have hbl1:p1<wr.heap.size:=Nat.lt_of_lt_of_le (by omega) hbw.size
     have hbl2:p2<wr.heap.size:=Nat.lt_of_lt_of_le (by omega) hbw.size
     have hin:decide (k<l.length)=true:=decide_eq_true hkn
     have hinm:decide (k<m.length)=true:=decide_eq_true (by omega)
     have hkm:k<m.length:=by omega
     have tx':siz x≤536870912:=by omega
     have ty':siz y≤536870912:=by omega
     have tA:siz a≤268435456:=by omega
     have tA':siz a≤536870912:=by omega
     have tP:siz p≤268435456:=by omega
     have tP':siz p≤536870912:=by omega
     have tX:siz x≤268435456:=by omega
     have tY:siz y≤268435456:=by omega
     clear ha ta ta' tx ty tp hx hy
     replace hv:=hid hv
     replace hxq:=hid hxq
     replace hyq:=hid hyq
     replace g5:=hid g5
     replace hR1:=hid hR1
     replace hR2:=hid hR2
     replace gR:=hid gR
     replace hbw:=hid hbw
     replace hp:=hid hp
     replace E1:=hid E1
     replace ea2:=hid ea2
     go_upto_region 5 with fail
     go_wp2_with fail
     refine region_late (s:=11) (S:=(fun w'=>(w'.cell? ⟨B,0,none⟩=wr.cell? ⟨B,0,none⟩∧w'.cell? ⟨B,1,none⟩=wr.cell? ⟨B,1,none⟩∧w'.cell? ⟨B,2,none⟩=wr.cell? ⟨B,2,none⟩∧w'.cell? ⟨p1,u,none⟩=wr.cell? ⟨p1,u,none⟩∧w'.cell? ⟨p1,u+1,none⟩=wr.cell? ⟨p1,u+1,none⟩∧w'.cell? ⟨p1,u+2,none⟩=wr.cell? ⟨p1,u+2,none⟩∧w'.cell? ⟨p2,v,none⟩=wr.cell? ⟨p2,v,none⟩∧w'.cell? ⟨p2,v+1,none⟩=wr.cell? ⟨p2,v+1,none⟩∧w'.cell? ⟨p2,v+2,none⟩=wr.cell? ⟨p2,v+2,none⟩))) (by kernel_rfl) (by rfl) (by rfl) (by kernel_rfl) ?_
     simp only [idle,lt,ly,lu]
     have hHeld:(fun w'=>(w'.cell? ⟨B,0,none⟩=wr.cell? ⟨B,0,none⟩∧w'.cell? ⟨B,1,none⟩=wr.cell? ⟨B,1,none⟩∧w'.cell? ⟨B,2,none⟩=wr.cell? ⟨B,2,none⟩∧w'.cell? ⟨p1,u,none⟩=wr.cell? ⟨p1,u,none⟩∧w'.cell? ⟨p1,u+1,none⟩=wr.cell? ⟨p1,u+1,none⟩∧w'.cell? ⟨p1,u+2,none⟩=wr.cell? ⟨p1,u+2,none⟩∧w'.cell? ⟨p2,v,none⟩=wr.cell? ⟨p2,v,none⟩∧w'.cell? ⟨p2,v+1,none⟩=wr.cell? ⟨p2,v+1,none⟩∧w'.cell? ⟨p2,v+2,none⟩=wr.cell? ⟨p2,v+2,none⟩)) wr:=⟨rfl,rfl,rfl,rfl,rfl,rfl,rfl,rfl,rfl⟩
     obtain ⟨w91,hw91⟩:=eX wr.drew
     have b91:Hid (Below wr.heap.size wr w91):=hid (by rw [hw91];exact ⟨rfl,rfl,rfl,Nat.le_refl _,fun _ _=>rfl⟩)
     replace hHeld:(fun w'=>(w'.cell? ⟨B,0,none⟩=wr.cell? ⟨B,0,none⟩∧w'.cell? ⟨B,1,none⟩=wr.cell? ⟨B,1,none⟩∧w'.cell? ⟨B,2,none⟩=wr.cell? ⟨B,2,none⟩∧w'.cell? ⟨p1,u,none⟩=wr.cell? ⟨p1,u,none⟩∧w'.cell? ⟨p1,u+1,none⟩=wr.cell? ⟨p1,u+1,none⟩∧w'.cell? ⟨p1,u+2,none⟩=wr.cell? ⟨p1,u+2,none⟩∧w'.cell? ⟨p2,v,none⟩=wr.cell? ⟨p2,v,none⟩∧w'.cell? ⟨p2,v+1,none⟩=wr.cell? ⟨p2,v+1,none⟩∧w'.cell? ⟨p2,v+2,none⟩=wr.cell? ⟨p2,v+2,none⟩)) w91:=by rw [hw91];exact hHeld
     rw [←hw91]
     clear hw91
     refine tk (i:=0) (h:=?_)
     try simp only [Act.put,lt,ly,lu]
     refine tk (i:=1) (h:=?_)
     try simp only [Act.put,lt,ly,lu]
     refine tk (i:=2) (h:=?_)
     try simp only [Act.put,lt,ly,lu]
     refine tk (i:=3) (h:=?_)
     try simp only [Act.put,lt,ly,lu]
     refine tk (i:=4) (h:=?_)
     try simp only [Act.put,lt,ly,lu]
     refine tk (i:=5) (h:=?_)
     try simp only [Act.put,lt,ly,lu]
     refine tk (i:=6) (h:=?_)
     try simp only [Act.put,lt,ly,lu]
     refine tk (i:=7) (h:=?_)
     try simp only [Act.put,lt,ly,lu]
     refine tk (i:=8) (h:=?_)
     try simp only [Act.put,lt,ly,lu]
     refine wpAnyH_ready (rs:=[9]) (by kernel_rfl) (by simp) (AllReadyH.cons (o:=?oq10) ?eq10 ?kq10 AllReadyH.nil)
     case eq10=>simp only [lg,lz,ls];rfl
     intro K hK;go_simp;go_at_call 62
     refine (mulR_val hp.out (hxq.out.keep b91.out) (hyq.out.keep b91.out) tX tY).mono ?_
     rintro e w92 ⟨v92,rfl,hv92,b92⟩
     obtain ⟨C31,j31,C32,j32,rfl,-,-⟩:=id hv92.opened
     replace hv92:=hid hv92
     replace b92:=hid b92
     have y90_92:=hid (Below.step b91.out b92.out)
     have hS:=y90_92.out
     clear hHeld
     refine hK.out _ _ ?_ (fun hHeld=>?_)
     · (try dsimp only)
       exact ⟨hS.cell (p:=⟨B,0,none⟩) hBl,hS.cell (p:=⟨B,1,none⟩) hBl,hS.cell (p:=⟨B,2,none⟩) hBl,hS.cell (p:=⟨p1,u,none⟩) hbl1,hS.cell (p:=⟨p1,u+1,none⟩) hbl1,hS.cell (p:=⟨p1,u+2,none⟩) hbl1,hS.cell (p:=⟨p2,v,none⟩) hbl2,hS.cell (p:=⟨p2,v+1,none⟩) hbl2,hS.cell (p:=⟨p2,v+2,none⟩) hbl2⟩
     clear hK K hS;try simp only [Act.put,lt,ly,lu]
     refine wpAnyH_ready (rs:=[10]) (by kernel_rfl) (by simp) (AllReadyH.cons (o:=?oq11) ?eq11 ?kq11 AllReadyH.nil)
     case eq11=>simp only [lg,lz,ls];rfl
     intro K hK;go_simp;go_at_call 61
     refine (addR_val E1.out (hv.out.keep y90_92.out) hv92.out tA tP).mono ?_
     rintro e w93 ⟨v93,rfl,hv93,b93⟩
     obtain ⟨C33,j33,C34,j34,rfl,-,-⟩:=id hv93.opened
     replace hv93:=hid hv93
     replace b93:=hid b93
     have y90_93:=hid (Below.step y90_92.out b93.out)
     have hS:=y90_93.out
     clear hHeld
     refine hK.out _ _ ?_ (fun hHeld=>?_)
     · (try dsimp only)
       exact ⟨hS.cell (p:=⟨B,0,none⟩) hBl,hS.cell (p:=⟨B,1,none⟩) hBl,hS.cell (p:=⟨B,2,none⟩) hBl,hS.cell (p:=⟨p1,u,none⟩) hbl1,hS.cell (p:=⟨p1,u+1,none⟩) hbl1,hS.cell (p:=⟨p1,u+2,none⟩) hbl1,hS.cell (p:=⟨p2,v,none⟩) hbl2,hS.cell (p:=⟨p2,v+1,none⟩) hbl2,hS.cell (p:=⟨p2,v+2,none⟩) hbl2⟩
     clear hK K hS;try simp only [Act.put,lt,ly,lu]
     refine tk (i:=11) (h:=?_)
     try simp only [Act.put,lt,ly,lu]
     refine wpAnyH_done (by kernel_rfl) ?_ _
     clear hHeld y0 y1 y2 z0 z1 z2 q0 q1 q2
     have DB:=at_keep g5.out y90_93.out
     have q0:=cell_of_row _ _ 0 _ _ _ DB
     have F0:=frozen_of_row w93 B 0 _ _ DB
     have q1:=cell_of_row _ _ 1 _ _ _ DB
     have F1:=frozen_of_row w93 B 1 _ _ DB
     have q2:=cell_of_row _ _ 2 _ _ _ DB
     have F2:=frozen_of_row w93 B 2 _ _ DB
     simp only [lg,lz,ls] at q0 q1 q2
     obtain ⟨ue,hw⟩:=eX ((((w93.setCell ⟨B,0,none⟩ (.bool (decide (a2.num<0)))).setCell ⟨B,1,none⟩ (.slice C33 (len a2.num.natAbs) j33)).setCell ⟨B,2,none⟩ (.slice C34 (len a2.den) j34)))
     obtain ⟨E,OT,LV,BL⟩:=stored3 DB hw
     have FIN:Hid (DotR w p1 o1 p2 o2 B l m (k+1) ue):=hid ⟨_,_,_,_,_,_,_,E,by rw [ea2.out];exact LV.rat hv93.out,(hR1.out.keep y90_93.out).stay (by omega) OT LV,(hR2.out.keep y90_93.out).stay (by omega) OT LV,OT _ _ (by omega) (at_keep gR.out y90_93.out),BL _ _ (by omega) (chain hbw.out y90_93.out),hGB⟩
     refine late_do (by rfl) (by rfl) ?_
     clear DB E OT LV BL
     go_simp
     rw [←hw]
     clear hw q0 q1 q2 F0 F1 F2
     go_wp2_with fail
     go_roundw
     case rel=>exact ⟨k+1,hkn,by go_num,FIN⟩
     case measure=>simp [intOf];omega
   · obtain rfl:k=l.length:=Nat.le_antisymm hk hkn
     have e9:(prods l m).take l.length=prods l m:=List.take_of_length_le (by simp [prods];omega)
     rw [e9] at ha
     have hm2:=ha.symm.trans es.out
     subst hm2
     obtain ⟨z0,z1,z2⟩:=cells3 g5
     have q0:=cell_of_row _ _ 0 _ _ _ gR
     have q1:=cell_of_row _ _ 1 _ _ _ gR
     have q2:=cell_of_row _ _ 2 _ _ _ gR
     have F0:=frozen_of_row wr w.heap.size 0 _ _ gR
     have F1:=frozen_of_row wr w.heap.size 1 _ _ gR
     have F2:=frozen_of_row wr w.heap.size 2 _ _ gR
     simp only [lg,lz,ls] at q0 q1 q2
     obtain ⟨ue,hw⟩:=eX ((((wr.setCell ⟨w.heap.size,0,none⟩ (.bool s1)).setCell ⟨w.heap.size,1,none⟩ (.slice A1 n1 c1)).setCell ⟨w.heap.size,2,none⟩ (.slice A2 n2 c2)))
     obtain ⟨E,-,LV,BL⟩:=stored3 gR hw
     have FE:=hid (LV.rat hv)
     have FB:=hid (BL _ _ (Nat.le_refl _) hbw)
     replace E:=hid E
     replace hw:=hid hw
     clear ha es HS HQ HP hv hR1 hR2 gR hbw g5 BL LV ta e9
     go_wp2_with fail
     rw [←hw.out]
     obtain ⟨r0,r1,r2⟩:=cells3 E.out
     refine bodyPost_ret (v:=.agg #[.bool s1,.slice A1 n1 c1,.slice A2 n2 c2]) ?_ rfl ⟨_,rfl,FE.out,FB.out⟩
     simp [results,Tryz.results14,go_sem,r0,r1,r2]
end Go.Proofs.YtlcimajjnfbidaaGreatDoor.Rf
