/-
  Contracts of the functions that the law calls, for every input (Ph Pf Pj Val Pk Qm Qn Qt).
-/
import Derived.Test.YtflopjfnppolgaaGreatDoorZ00
import Derived.Test.YtflopjfnppolgaaGreatDoorZ38
import Derived.WalkKit
import Derived.Shelf.Abstract
import Derived.Test.YtflopjfnppolgaaGreatDoorZ32
import Derived.Test.YtflopjfnppolgaaGreatDoorZ19
import Derived.Test.YtflopjfnppolgaaGreatDoorZ18
import Derived.Test.YtflopjfnppolgaaGreatDoorZ11
import Derived.Test.YtflopjfnppolgaaGreatDoorZ08
import Derived.Test.YtflopjfnppolgaaGreatDoorZ09
import Derived.Test.YtflopjfnppolgaaGreatDoorZ30
import Derived.Test.YtflopjfnppolgaaGreatDoorZ31
import Derived.Test.YtflopjfnppolgaaGreatDoorZ12
import Derived.OwnWalk
import Derived.Test.YtflopjfnppolgaaGreatDoorZ37
import Derived.Test.YtflopjfnppolgaaGreatDoorZ35
set_option linter.all false
set_option maxRecDepth 100000
set_option maxHeartbeats 40000000
namespace Go.Proofs.YtflopjfnppolgaaGreatDoor
open Lib (hid)
open Go.RowKit Go.Shelf
open Vx
attribute [local go_sem] Oper.semAt_some
def Fk (W:World) (A:Option Addr) (n:Nat) (vals:Nat→Value):Prop:=∀ j,j<n→∃ b o s A1 n1 c1 A2 n2 c2,A=some ⟨b,o,none⟩∧vals j=.agg #[.bool s,.slice A1 n1 c1,.slice A2 n2 c2] ∧
  W.cell? ⟨b,o+j*3,none⟩=some (.bool s)∧W.cell? ⟨b,o+j*3+1,none⟩=some (.slice A1 n1 c1)∧W.cell? ⟨b,o+j*3+2,none⟩=some (.slice A2 n2 c2)
theorem Fk.keep {W V:World} {A:Option Addr} {n:Nat} {vals:Nat→Value} (h:Fk W A n vals) (hb:Below W.heap.size W V):Fk V A n vals:=by
 intro j hj
 obtain ⟨b,o,s,A1,n1,c1,A2,n2,c2,e,hv,z0,z1,z2⟩:=h j hj
 have hl:=bL W _ z0
 exact ⟨b,o,s,A1,n1,c1,A2,n2,c2,e,hv,(hb.cell (p:=⟨b,o+j*3,none⟩) hl).trans z0,(hb.cell (p:=⟨b,o+j*3+1,none⟩) hl).trans z1,(hb.cell (p:=⟨b,o+j*3+2,none⟩) hl).trans z2⟩
def cutQ (a b:Rat) (n i:Nat):Rat:=a+(b - a) / ((n:Nat):Rat)*((i:Nat):Rat)
open Go.RowKit
open List renaming flatMap_cons → zfa, flatMap_nil → zfb, append_nil → zfc, nil_append → zfd, cons_append → zfe, foldl_cons → zff, foldl_nil → zfg, getElem?_toArray → lg, getElem?_cons_zero → lz, getElem?_cons_succ → ls, setIfInBounds_toArray → lt, set_cons_zero → ly, set_cons_succ → lu
open Rf (AE AF Am')
theorem CI {X Y:World} {B:Nat} {v:Value} {z:Nat} {cs:Array Value} {T:TypeId} {fr:Nat × Nat} (hs:X.heap.size≤Y.heap.size) (hb:X.heap[B]?=some (.cells cs T fr)) (hi:∀ (i:Nat) (k:IntKind) (m:Int),cs[i]?≠some (.int k m)) (h:∀ (n:Nat) (o:Obj),n≠B→X.heap[n]?=some o→Y.heap[n]?=some o) (hz:Nt X v z):Nt Y v z:=by
 obtain ⟨A,c,h1,h2,h3,h4,h5⟩:=hz
 refine ⟨A,c,h1,h2,h3,h4,fun hx=>?_⟩
 obtain ⟨b,o,h6,h7,h8⟩:=h5 hx
 have hne:b≠B:=by
   rintro rfl
   have h9:=h8 0 (Ak.2 hx)
   rw [cR _ _ _ _ _ _ hb] at h9
   exact hi _ _ _ h9
 exact ⟨b,o,h6,ltl h7 hs,fun j hj=>(World.cell?_of_block (a:=⟨b,o+j,none⟩) ((h b _ hne (show X.heap[b]?=some X.heap[b] by simp [h7])).trans (show X.heap[b]?=some X.heap[b] by simp [h7]).symm)).trans (h8 j hj)⟩
theorem Cv {X Y:World} {B:Nat} {v:Value} {p q:Rat} {cs:Array Value} {T:TypeId} {fr:Nat × Nat} (hs:X.heap.size≤Y.heap.size) (hb:X.heap[B]?=some (.cells cs T fr)) (hi:∀ (i:Nat) (k:IntKind) (m:Int),cs[i]?≠some (.int k m)) (h:∀ (n:Nat) (o:Obj),n≠B→X.heap[n]?=some o→Y.heap[n]?=some o) (hz:Ao' X v p q):Ao' Y v p q:=by
 obtain ⟨v1,v2,v3,v4,e,h1,h2,h3,h4⟩:=hz
 exact ⟨v1,v2,v3,v4,e,CI hs hb hi h h1,CI hs hb hi h h2,CI hs hb hi h h3,CI hs hb hi h h4⟩
theorem EI {W W':World} {B u:Nat} {cs:Array Value} {T:TypeId} {v0 v1 v2 v3 v4 v5:Value} (h:W.heap[B]?=some (.cells cs T (0,0))) (hu:u+5<cs.size)
   (hw:W'=((((((W.setCell ⟨B,u,none⟩ v0).setCell ⟨B,u+1,none⟩ v1).setCell ⟨B,u+2,none⟩ v2).setCell ⟨B,u+3,none⟩ v3).setCell ⟨B,u+4,none⟩ v4).setCell ⟨B,u+5,none⟩ v5)) :
   ∃ cs',W'.heap[B]?=some (.cells cs' T (0,0))∧cs'.size=cs.size∧(∀ k,k<u∨u+5<k→cs'[k]?=cs[k]?)∧(cs'[u]?=some v0∧cs'[u+1]?=some v1∧cs'[u+2]?=some v2∧cs'[u+3]?=some v3∧cs'[u+4]?=some v4∧cs'[u+5]?=some v5) ∧
     (∀ (n:Nat) (o:Obj),n≠B→W.heap[n]?=some o→W'.heap[n]?=some o)∧W'.heap.size=W.heap.size∧(∀ (N:Nat) (wB:World),N≤B→Below N wB W→Below N wB W'):=by
 have g1:=heap_setCell_same W B u _ _ v0 h
 have g2:=heap_setCell_same _ B (u+1) _ _ v1 g1
 have g3:=heap_setCell_same _ B (u+2) _ _ v2 g2
 have g4:=heap_setCell_same _ B (u+3) _ _ v3 g3
 have g5:=heap_setCell_same _ B (u+4) _ _ v4 g4
 have g6:=heap_setCell_same _ B (u+5) _ _ v5 g5
 refine ⟨_,by rw [hw];exact g6,by simp,fun k hk=>?_,⟨?_,?_,?_,?_,?_,?_⟩,fun n o hne ho=>?_,by rw [hw];simp,fun N wB hN hB=>?_⟩
 · rw [Array.getElem?_setIfInBounds_ne (by omega),Array.getElem?_setIfInBounds_ne (by omega),Array.getElem?_setIfInBounds_ne (by omega),Array.getElem?_setIfInBounds_ne (by omega),Array.getElem?_setIfInBounds_ne (by omega),Array.getElem?_setIfInBounds_ne (by omega)]
 · rw [Array.getElem?_setIfInBounds_ne (by omega),Array.getElem?_setIfInBounds_ne (by omega),Array.getElem?_setIfInBounds_ne (by omega),Array.getElem?_setIfInBounds_ne (by omega),Array.getElem?_setIfInBounds_ne (by omega),Array.getElem?_setIfInBounds_self_of_lt (by (try simp only [Array.size_setIfInBounds]);omega)]
 · rw [Array.getElem?_setIfInBounds_ne (by omega),Array.getElem?_setIfInBounds_ne (by omega),Array.getElem?_setIfInBounds_ne (by omega),Array.getElem?_setIfInBounds_ne (by omega),Array.getElem?_setIfInBounds_self_of_lt (by (try simp only [Array.size_setIfInBounds]);omega)]
 · rw [Array.getElem?_setIfInBounds_ne (by omega),Array.getElem?_setIfInBounds_ne (by omega),Array.getElem?_setIfInBounds_ne (by omega),Array.getElem?_setIfInBounds_self_of_lt (by (try simp only [Array.size_setIfInBounds]);omega)]
 · rw [Array.getElem?_setIfInBounds_ne (by omega),Array.getElem?_setIfInBounds_ne (by omega),Array.getElem?_setIfInBounds_self_of_lt (by (try simp only [Array.size_setIfInBounds]);omega)]
 · rw [Array.getElem?_setIfInBounds_ne (by omega),Array.getElem?_setIfInBounds_self_of_lt (by (try simp only [Array.size_setIfInBounds]);omega)]
 · rw [Array.getElem?_setIfInBounds_self_of_lt (by (try simp only [Array.size_setIfInBounds]);omega)]
 · rw [hw,heap_setCell_other _ _ _ _ hne,heap_setCell_other _ _ _ _ hne,heap_setCell_other _ _ _ _ hne,heap_setCell_other _ _ _ _ hne,heap_setCell_other _ _ _ _ hne,heap_setCell_other _ _ _ _ hne];exact ho
 · rw [hw];exact ((((((hB.setCell (p:=⟨B,u,none⟩) hN _).setCell (p:=⟨B,u+1,none⟩) hN _).setCell (p:=⟨B,u+2,none⟩) hN _).setCell (p:=⟨B,u+3,none⟩) hN _).setCell (p:=⟨B,u+4,none⟩) hN _).setCell (p:=⟨B,u+5,none⟩) hN _)
theorem An'.box {wS w:World} {v:Value} {a b:Rat} (h:An' wS w) (hv:Ao' wS v a b):Ao' w v a b:=by
 obtain ⟨v1,v2,v3,v4,e,h1,h2,h3,h4⟩:=hv
 exact ⟨v1,v2,v3,v4,e,h _ _ h1,h _ _ h2,h _ _ h3,h _ _ h4⟩
open Rf (AE AF Am' AR' AO')
theorem FF {w:World} {s1 s2:Bool} {A1 A2 A3 A4:Option Addr} {n1 c1 n2 c2 n3 c3 n4 c4:Nat} {p q:Rat} (h1:Ac' w (.agg #[.bool s1,.slice A1 n1 c1,.slice A2 n2 c2]) p) (h2:Ac' w (.agg #[.bool s2,.slice A3 n3 c3,.slice A4 n4 c4]) q) :
   Ao' w (.agg #[.bool s1,.slice A1 n1 c1,.slice A2 n2 c2,.bool s2,.slice A3 n3 c3,.slice A4 n4 c4]) p q:=by
 obtain ⟨u1,u2,e1,h3,h4⟩:=h1
 obtain ⟨u3,u4,e2,h5,h6⟩:=h2
 simp only [Value.agg.injEq,Array.mk.injEq,List.cons.injEq,Value.bool.injEq,and_true] at e1 e2
 obtain ⟨rfl,rfl,rfl⟩:=e1
 obtain ⟨rfl,rfl,rfl⟩:=e2
 exact ⟨_,_,_,_,rfl,h3,h4,h5,h6⟩
def AQ (W:World) (Bp:Nat) (a b:Rat) (n i:Nat):Prop:=∀ j,j<i→∃ s1 A1 n1 c1 A2 n2 c2 s2 A3 n3 c3 A4 n4 c4,W.cell? ⟨Bp,j*6,none⟩=some (.bool s1)∧W.cell? ⟨Bp,j*6+1,none⟩=some (.slice A1 n1 c1)∧W.cell? ⟨Bp,j*6+2,none⟩=some (.slice A2 n2 c2) ∧
  W.cell? ⟨Bp,j*6+3,none⟩=some (.bool s2)∧W.cell? ⟨Bp,j*6+4,none⟩=some (.slice A3 n3 c3)∧W.cell? ⟨Bp,j*6+5,none⟩=some (.slice A4 n4 c4)∧Ao' W (.agg #[.bool s1,.slice A1 n1 c1,.slice A2 n2 c2,.bool s2,.slice A3 n3 c3,.slice A4 n4 c4]) (cutQ a b n j) (cutQ a b n (j+1))
theorem AQ.keep {W V:World} {Bp:Nat} {a b:Rat} {n i:Nat} (h:AQ W Bp a b n i) (hb:Below W.heap.size W V):AQ V Bp a b n i:=by
 intro j hj
 obtain ⟨s1,A1,n1,c1,A2,n2,c2,s2,A3,n3,c3,A4,n4,c4,z0,z1,z2,z3,z4,z5,hx⟩:=h j hj
 have hl:=bL W _ z0
 exact ⟨_,_,_,_,_,_,_,_,_,_,_,_,_,_,(hb.cell (p:=⟨Bp,j*6,none⟩) hl).trans z0,(hb.cell (p:=⟨Bp,j*6+1,none⟩) hl).trans z1,(hb.cell (p:=⟨Bp,j*6+2,none⟩) hl).trans z2,(hb.cell (p:=⟨Bp,j*6+3,none⟩) hl).trans z3,(hb.cell (p:=⟨Bp,j*6+4,none⟩) hl).trans z4,(hb.cell (p:=⟨Bp,j*6+5,none⟩) hl).trans z5,hx.keep hb⟩
theorem FT:(Tryz.prog.info? 37).map (fun i=>(i.zero,i.size,i.bytes))=some (some (.agg #[.bool false,.slice none 0 0,.slice none 0 0,.bool false,.slice none 0 0,.slice none 0 0]),6,112):=by kernel_rfl
theorem FT' {n:Nat}:∀ (i:Nat) (k:IntKind) (m:Int),(madeCells (#[.bool false,.slice none 0 0,.slice none 0 0,.bool false,.slice none 0 0,.slice none 0 0]:Array Value) n)[i]?≠some (.int k m):=by
 intro i k m h
 have hm:=Array.mem_of_getElem? h
 simp only [madeCells,Array.mem_map,Array.mem_range] at hm
 obtain ⟨j,-,hj⟩:=hm
 have hlt:j%6<6:=Nat.mod_lt _ (by omega)
 generalize j%6=r at hj hlt
 match r,hlt with
 | 0,_=>simp at hj
 | 1,_=>simp at hj
 | 2,_=>simp at hj
 | 3,_=>simp at hj
 | 4,_=>simp at hj
 | 5,_=>simp at hj
end Go.Proofs.YtflopjfnppolgaaGreatDoor
namespace Go.Proofs.YtflopjfnppolgaaGreatDoor.Rf
open Lib (hid)
open Go.RowKit
open Rx
open Vx (Aa' Ai Ai')
open List renaming flatMap_cons → zfa, flatMap_nil → zfb, append_nil → zfc, nil_append → zfd, cons_append → zfe, foldl_cons → zff, foldl_nil → zfg, getElem?_toArray → lg, getElem?_cons_zero → lz, getElem?_cons_succ → ls, setIfInBounds_toArray → lt, set_cons_zero → ly, set_cons_succ → lu
open Go.Proofs.YtflopjfnppolgaaGreatDoor (EI Cv FT' FT)
def BX' (W:World) (b o:Nat) (q:Rat × Rat):Prop:=∃ A1 c1 B1 d1 E1 e1 G1 g1,W.cell? ⟨b,o,none⟩=some (.bool (decide (q.1.num<0)))∧W.cell? ⟨b,o+1,none⟩=some (.slice A1 (Vx.len q.1.num.natAbs) c1)∧W.cell? ⟨b,o+2,none⟩=some (.slice B1 (Vx.len (below q.1.den)) d1)∧W.cell? ⟨b,o+3,none⟩=some (.bool (decide (q.2.num<0)))∧W.cell? ⟨b,o+4,none⟩=some (.slice E1 (Vx.len q.2.num.natAbs) e1)∧W.cell? ⟨b,o+5,none⟩=some (.slice G1 (Vx.len (below q.2.den)) g1)∧Ao' W (.agg #[.bool (decide (q.1.num<0)),.slice A1 (Vx.len q.1.num.natAbs) c1,.slice B1 (Vx.len (below q.1.den)) d1,.bool (decide (q.2.num<0)),.slice E1 (Vx.len q.2.num.natAbs) e1,.slice G1 (Vx.len (below q.2.den)) g1]) q.1 q.2
theorem BX'.keep {W V:World} {b o:Nat} {q:Rat × Rat} (h:BX' W b o q) (hb:Below W.heap.size W V):BX' V b o q:=by
 obtain ⟨A1,c1,B1,d1,E1,e1,G1,g1,z0,z1,z2,z3,z4,z5,hx⟩:=h
 have hl:=bL W _ z0
 exact ⟨A1,c1,B1,d1,E1,e1,G1,g1,(hb.cell (p:=⟨b,o,none⟩) hl).trans z0,(hb.cell (p:=⟨b,o+1,none⟩) hl).trans z1,(hb.cell (p:=⟨b,o+2,none⟩) hl).trans z2,(hb.cell (p:=⟨b,o+3,none⟩) hl).trans z3,(hb.cell (p:=⟨b,o+4,none⟩) hl).trans z4,(hb.cell (p:=⟨b,o+5,none⟩) hl).trans z5,hx.keep hb⟩
def CP' (W:World) (b o:Nat) (l:List (Rat × Rat)):Prop:=∀ (i:Nat) (q:Rat × Rat),l[i]?=some q→BX' W b (o+i*6) q
theorem CP'.keep {W V:World} {b o:Nat} {l:List (Rat × Rat)} (h:CP' W b o l) (hb:Below W.heap.size W V):CP' V b o l:=fun i q hi=>(h i q hi).keep hb
def Gs' (W:World) (b:Nat) (q:Rat × Rat):Prop:=∃ A1 c1 B1 d1 E1 e1 G1 g1,W.heap[b]?=some (.cells #[.bool (decide (q.1.num<0)),.slice A1 (Vx.len q.1.num.natAbs) c1,.slice B1 (Vx.len (below q.1.den)) d1,.bool (decide (q.2.num<0)),.slice E1 (Vx.len q.2.num.natAbs) e1,.slice G1 (Vx.len (below q.2.den)) g1] 37 (0,0))∧Ao' W (.agg #[.bool (decide (q.1.num<0)),.slice A1 (Vx.len q.1.num.natAbs) c1,.slice B1 (Vx.len (below q.1.den)) d1,.bool (decide (q.2.num<0)),.slice E1 (Vx.len q.2.num.natAbs) e1,.slice G1 (Vx.len (below q.2.den)) g1]) q.1 q.2
theorem Gs'.keep {W V:World} {b:Nat} {q:Rat × Rat} (h:Gs' W b q) (hb:Below W.heap.size W V):Gs' V b q:=by
 obtain ⟨A1,c1,B1,d1,E1,e1,G1,g1,h1,h2⟩:=h
 exact ⟨A1,c1,B1,d1,E1,e1,G1,g1,Ab' h1 hb,h2.keep hb⟩
def Il (a b:Rat) (s x:Rat × Rat):Rat × Rat:=(CB BG s.1 s.2 x.1 x.2 a b,CB' BG s.1 s.2 x.1 x.2 a b)
def Bp' (a b:Rat) (s:Rat × Rat) (l:List (Rat × Rat)) (k:Nat):Rat × Rat:=(l.take k).foldl (Il a b) s
theorem FF' {a b:Rat} {s x:Rat × Rat} {l:List (Rat × Rat)} {k:Nat} (h:l[k]?=some x):Il a b (Bp' a b s l k) x=Bp' a b s l (k+1):=by
 unfold Bp'
 rw [List.take_add_one,h]
 simp only [Option.toList_some,List.foldl_append,List.foldl_cons,List.foldl_nil]
structure FollowTo (w:World) (op:Obj) (l:List (Rat × Rat)) (a b:Rat) (s:Rat × Rat) (Bp n k:Nat) (W:World):Prop where
  row:∃ cs,W.heap[Bp]?=some (.cells cs 37 (0,0))∧cs.size=n*6∧∀ (i:Nat) (k:IntKind) (m:Int),cs[i]?≠some (.int k m)
  pts:∀ j,j<k→BX' W Bp (j*6) (Bp' a b s l (j+1))
  po:W.heap[w.heap.size]?=some op
  st:Gs' W (w.heap.size+1) (Bp' a b s l k)
  be:Below w.heap.size w W
def Hb' (w:World) (a b:Rat) (s:Rat × Rat) (l:List (Rat × Rat)) (n:Nat) (e:Ending) (w':World):Prop :=
  ∃ Bp,e=.returned (.tuple #[.slice (some ⟨Bp,0,none⟩) n n,.int .i64 0])∧(∀ j,j<n→BX' w' Bp (j*6) (Bp' a b s l (j+1)))∧Below w.heap.size w w'
theorem Gt {w:World} {v vs:Value} {a b r s0 s1:Rat} {pb po c n:Nat} {l:List (Rat × Rat)} (hp:AA' w v a b r) (hs:Ao' w vs s0 s1) (hl:CP' w pb po l) (hg:Ar' a b r) (hn:n=l.length) (hn1:1≤n) (hn2:n≤200) (hz:∀ k,k≤n→Aa' (Bp' a b (s0,s1) l k).1≤8000000∧Aa' (Bp' a b (s0,s1) l k).2≤8000000) (sx:∀ x∈l,Aa' x.1≤1000000∧Aa' x.2≤1000000) (sg:Aa' a≤1000000∧Aa' b≤1000000) :
   Calls Tryz.prog 26 #[v,vs,.slice (some ⟨pb,po,none⟩) n c] w (Hb' w a b (s0,s1) l n):=by
 replace hl:=hid hl
 replace hn:=hid hn
 replace hz:=hid hz
 replace sg:=hid sg
 replace sx:=hid sx
 replace hg:=hid hg
 obtain ⟨C1,j1,C2,j2,C3,j3,C4,j4,C5,j5,C6,j6,rfl,hpg,hpe⟩:=id hp.opened
 replace hp:=hid hp
 replace hpg:=hid hpg
 replace hpe:=hid hpe
 obtain ⟨C7,j7,C8,j8,C9,j9,C10,j10,rfl,-,-⟩:=id hs.opened
 replace hs:=hid hs
 obtain ⟨w1,hw1⟩:=eX (((w.alloc (.cells #[.bool (decide (a.num<0)),.slice C1 (Vx.len a.num.natAbs) j1,.slice C2 (Vx.len (below a.den)) j2,.bool (decide (b.num<0)),.slice C3 (Vx.len b.num.natAbs) j3,.slice C4 (Vx.len (below b.den)) j4,.bool (decide (r.num<0)),.slice C5 (Vx.len r.num.natAbs) j5,.slice C6 (Vx.len (below r.den)) j6] 39)).alloc (.cells #[.bool (decide (s0.num<0)),.slice C7 (Vx.len s0.num.natAbs) j7,.slice C8 (Vx.len (below s0.den)) j8,.bool (decide (s1.num<0)),.slice C9 (Vx.len s1.num.natAbs) j9,.slice C10 (Vx.len (below s1.den)) j10] 37)))
 obtain ⟨b1,g1,g2⟩:=AL' hw1
 replace g1:=hid g1
 replace g2:=hid g2
 replace b1:=hid b1
 go_enter Tryz.func26,Tryz.ntmps26
 go_upto_region 1 with fail
 rw [←hw1]
 clear hw1
 have hg:w1.heap[w.heap.size]?=some (.cells #[.bool (decide (a.num<0)),.slice C1 (Vx.len a.num.natAbs) j1,.slice C2 (Vx.len (below a.den)) j2,.bool (decide (b.num<0)),.slice C3 (Vx.len b.num.natAbs) j3,.slice C4 (Vx.len (below b.den)) j4,.bool (decide (r.num<0)),.slice C5 (Vx.len r.num.natAbs) j5,.slice C6 (Vx.len (below r.den)) j6] 39 (0,0)):=((Below.refl _ w1).block _ (gE.1 g1.out).1).trans g1.out
 have z_p_0:w1.cell? ⟨w.heap.size,0,none⟩=some (.bool (decide (a.num<0))):=cR _ _ _ _ _ _ hg
 have z_p_1:w1.cell? ⟨w.heap.size,1,none⟩=some (.slice C1 (Vx.len a.num.natAbs) j1):=cR _ _ _ _ _ _ hg
 have z_p_2:w1.cell? ⟨w.heap.size,2,none⟩=some (.slice C2 (Vx.len (below a.den)) j2):=cR _ _ _ _ _ _ hg
 have z_p_3:w1.cell? ⟨w.heap.size,3,none⟩=some (.bool (decide (b.num<0))):=cR _ _ _ _ _ _ hg
 have z_p_4:w1.cell? ⟨w.heap.size,4,none⟩=some (.slice C3 (Vx.len b.num.natAbs) j3):=cR _ _ _ _ _ _ hg
 have z_p_5:w1.cell? ⟨w.heap.size,5,none⟩=some (.slice C4 (Vx.len (below b.den)) j4):=cR _ _ _ _ _ _ hg
 have z_p_6:w1.cell? ⟨w.heap.size,6,none⟩=some (.bool (decide (r.num<0))):=cR _ _ _ _ _ _ hg
 have z_p_7:w1.cell? ⟨w.heap.size,7,none⟩=some (.slice C5 (Vx.len r.num.natAbs) j5):=cR _ _ _ _ _ _ hg
 have z_p_8:w1.cell? ⟨w.heap.size,8,none⟩=some (.slice C6 (Vx.len (below r.den)) j6):=cR _ _ _ _ _ _ hg
 clear hg
 have HX:=hid (Bz (n:=n) (k:=0) (hp.out.keep b1.out) hg.out (nT sg.out.1 (by omega)) (nT sg.out.2 (by omega)) hn2 (by omega))
 go_wp2_with fail
 refine (HX.out).mono ?_
 rintro e w2 ⟨rfl,b2⟩
 replace b2:=hid b2
 clear HX
 have y0_2:=hid (bS b1.out b2.out)
 obtain ⟨i0,hi0,hz0,hz1,hz2⟩:=info_parts FT
 replace hi0:=hid hi0
 replace hz0:=hid hz0
 replace hz1:=hid hz1
 replace hz2:=hid hz2
 have hsz:=Al' (Ab' g2.out b2.out)
 have hBB:=hid y0_2.out
 have R1:=hid (Ab' g1.out b2.out)
 have R2:=hid (Ab' g2.out b2.out)
 have S2:=hid (hs.out.keep y0_2.out)
 go_wp2_with (at_make;refine wpList_make_full _ rfl _ _ _ rfl w2.heap.size 37 i0 _ 6 Tryz.underlying79 hi0.out hz0.out hz1.out _ _ _ _ n rfl rfl rfl rfl (by rw [hz2.out];omega) (by unfold maxLen;omega) (nL _) ?_;intro v1 hown hgr)
 obtain ⟨Bp,hBp⟩:=eY w2.heap.size
 have hB9:Below w2.heap.size w2 v1:=⟨hgr.os,hgr.tape,hgr.output,hgr.size,fun k hk=>hgr.block k hk (by simp)⟩
 have HR:Hid (FollowTo w (.cells #[.bool (decide (a.num<0)),.slice C1 (Vx.len a.num.natAbs) j1,.slice C2 (Vx.len (below a.den)) j2,.bool (decide (b.num<0)),.slice C3 (Vx.len b.num.natAbs) j3,.slice C4 (Vx.len (below b.den)) j4,.bool (decide (r.num<0)),.slice C5 (Vx.len r.num.natAbs) j5,.slice C6 (Vx.len (below r.den)) j6] 39 (0,0)) l a b (s0,s1) Bp n 0 v1):=by
   obtain ⟨hl9,h0 | ⟨g,cap,cur,hv9,-,hg9,-,-,hcs,htk⟩⟩:=hown
   · have:=h0.2;omega
   · injection hv9 with e1 e2 e3
     injection e1 with e1
     injection e1 with e1
     subst e3
     rw [←hBp,e1]
     refine hid ⟨⟨cur,hg9,hcs,fun i k m h=>?_⟩,fun j hj=>absurd hj (Nat.not_lt_zero _),Ab' R1.out hB9,⟨C7,j7,C8,j8,C9,j9,C10,j10,Ab' R2.out hB9,S2.out.keep hB9⟩,Ae' hBB.out hB9⟩
     have hi9:i<n*6:=by rw [←hcs];exact (gE.1 h).1
     rw [←Array.getElem?_toList] at h
     have h2:(cur.toList.take (n*6))[i]?=some (.int k m):=by rw [List.getElem?_take_of_lt hi9];exact h
     rw [htk,Array.getElem?_toList] at h2
     exact FT' i k m h2
 have hne1:w.heap.size+1<Bp:=by rw [←hBp];exact hsz
 rw [hBp]
 clear hown hgr hB9 hBp R1 R2 S2 hBB b1 b2 g1 g2 hs hsz hi0 hz0 hz1 hz2
 go_wp2_with fail
 go_loopw [24] (fun iv wr=>∃ k:Nat,k≤n∧iv=.int .i64 ((k:Nat):Int)∧Hid (FollowTo w (.cells #[.bool (decide (a.num<0)),.slice C1 (Vx.len a.num.natAbs) j1,.slice C2 (Vx.len (below a.den)) j2,.bool (decide (b.num<0)),.slice C3 (Vx.len b.num.natAbs) j3,.slice C4 (Vx.len (below b.den)) j4,.bool (decide (r.num<0)),.slice C5 (Vx.len r.num.natAbs) j5,.slice C6 (Vx.len (below r.den)) j6] 39 (0,0)) l a b (s0,s1) Bp n k wr)) (fun iv _=>n - (intOf iv).toNat)
 case atStart=>exact ⟨0,Nat.zero_le _,rfl,HR⟩
 case round =>
   obtain ⟨j,hj,rfl,hrel⟩:=hrel
   clear HR
   rcases Nat.lt_or_ge j n with hjn | hjn
   · have hin:decide (j<n)=true:=dT_ hjn
     obtain ⟨x,hx⟩:∃ x,l[j]?=some x:=⟨_,List.getElem?_eq_getElem (by have:=hn.out;omega)⟩
     obtain ⟨s,es⟩:=eY (Bp' a b (s0,s1) l j)
     obtain ⟨y,ey⟩:=eY (Bp' a b (s0,s1) l (j+1))
     have hst:=FF' (a:=a) (b:=b) (s:=(s0,s1)) hx
     rw [es,ey] at hst
     have h1:CB BG s.1 s.2 x.1 x.2 a b=y.1:=congrArg Prod.fst hst
     have h2:CB' BG s.1 s.2 x.1 x.2 a b=y.2:=congrArg Prod.snd hst
     have ss:=hz.out j (by omega)
     rw [es] at ss
     have sx2:=sx.out x (List.mem_of_getElem? hx)
     obtain ⟨A1,c1,B1,d1,E1,e1,G1,g1,z0,z1,z2,z3,z4,z5,hxb⟩:=(hl.out.keep hrel.out.be) j x hx
     have hT:=hrel
     obtain ⟨A2,c2,B2,d2,E2,e2,G2,g2,gs,hsb⟩:=hT.out.st
     rw [es] at gs hsb
     replace hxb:=hid hxb
     replace gs:=hid gs
     replace hsb:=hid hsb
     replace h1:=hid h1
     replace h2:=hid h2
     replace es:=hid es
     replace ey:=hid ey
     have hwk:IntKind.i64.wrap (((j:Nat):Int)+1)=((j:Nat):Int)+1:=by
       unfold IntKind.wrap
       simp [IntKind.bits,IntKind.signed]
       omega
     clear hst hx
     go_upto_region 8 with fail
     obtain ⟨w91,hw91⟩:=eX (wr.alloc (.cells #[.bool (decide (x.1.num<0)),.slice A1 (Vx.len x.1.num.natAbs) c1,.slice B1 (Vx.len (below x.1.den)) d1,.bool (decide (x.2.num<0)),.slice E1 (Vx.len x.2.num.natAbs) e1,.slice G1 (Vx.len (below x.2.den)) g1] 37))
     have b91:=hid (AO' hw91)
     have LX:=hid (AR' hw91)
     rw [←hw91]
     clear hw91 z0 z1 z2 z3 z4 z5
     have gs9:=hid (Ab' gs.out b91.out)
     have gp9:=hid (Ab' hT.out.po b91.out)
     obtain ⟨x0,x1,x2,x3,x4,x5⟩:=Aj LX.out
     obtain ⟨y0,y1,y2,y3,y4,y5⟩:=Aj gs9.out
     have p0:w91.cell? ⟨w.heap.size,0,none⟩=some (.bool (decide (a.num<0))):=cR _ _ _ _ _ _ gp9.out
     have p1:w91.cell? ⟨w.heap.size,1,none⟩=some (.slice C1 (Vx.len a.num.natAbs) j1):=cR _ _ _ _ _ _ gp9.out
     have p2:w91.cell? ⟨w.heap.size,2,none⟩=some (.slice C2 (Vx.len (below a.den)) j2):=cR _ _ _ _ _ _ gp9.out
     have p3:w91.cell? ⟨w.heap.size,3,none⟩=some (.bool (decide (b.num<0))):=cR _ _ _ _ _ _ gp9.out
     have p4:w91.cell? ⟨w.heap.size,4,none⟩=some (.slice C3 (Vx.len b.num.natAbs) j3):=cR _ _ _ _ _ _ gp9.out
     have p5:w91.cell? ⟨w.heap.size,5,none⟩=some (.slice C4 (Vx.len (below b.den)) j4):=cR _ _ _ _ _ _ gp9.out
     have p6:w91.cell? ⟨w.heap.size,6,none⟩=some (.bool (decide (r.num<0))):=cR _ _ _ _ _ _ gp9.out
     have p7:w91.cell? ⟨w.heap.size,7,none⟩=some (.slice C5 (Vx.len r.num.natAbs) j5):=cR _ _ _ _ _ _ gp9.out
     have p8:w91.cell? ⟨w.heap.size,8,none⟩=some (.slice C6 (Vx.len (below r.den)) j6):=cR _ _ _ _ _ _ gp9.out
     have HX:=hid (Gr (w:=w91) (hp.out.keep (bS hT.out.be b91.out)) (hsb.out.keep b91.out) (hxb.out.keep b91.out) ss sx2 sg.out h1.out h2.out)
     go_wp2_with fail
     refine (HX.out).mono ?_
     rintro e w92 ⟨v92,rfl,hv92,b92⟩
     obtain ⟨A3,c3,B3,d3,E3,e3,G3,g3,rfl,-,-⟩:=id hv92.opened
     replace hv92:=hid hv92
     replace b92:=hid b92
     clear HX x0 x1 x2 x3 x4 x5 y0 y1 y2 y3 y4 y5 p0 p1 p2 p3 p4 p5 p6 p7 p8
     have gs8:=Ab' gs9.out b92.out
     obtain ⟨q0,q1,q2,q3,q4,q5⟩:=Aj gs8
     have F0:=fR w92 (w.heap.size+1) 0 _ _ gs8
     have F1:=fR w92 (w.heap.size+1) 1 _ _ gs8
     have F2:=fR w92 (w.heap.size+1) 2 _ _ gs8
     have F3:=fR w92 (w.heap.size+1) 3 _ _ gs8
     have F4:=fR w92 (w.heap.size+1) 4 _ _ gs8
     have F5:=fR w92 (w.heap.size+1) 5 _ _ gs8
     obtain ⟨u3,hw⟩:=eX (((((((w92.setCell ⟨(w.heap.size+1),0,none⟩ (.bool (decide (y.1.num<0)))).setCell ⟨(w.heap.size+1),1,none⟩ (.slice A3 (Vx.len y.1.num.natAbs) c3)).setCell ⟨(w.heap.size+1),2,none⟩ (.slice B3 (Vx.len (below y.1.den)) d3)).setCell ⟨(w.heap.size+1),3,none⟩ (.bool (decide (y.2.num<0)))).setCell ⟨(w.heap.size+1),4,none⟩ (.slice E3 (Vx.len y.2.num.natAbs) e3)).setCell ⟨(w.heap.size+1),5,none⟩ (.slice G3 (Vx.len (below y.2.den)) g3)))
     obtain ⟨ES,OT,LV,BL⟩:=AF gs8 hw
     have kb:=bS b91.out b92.out
     obtain ⟨cs,hrow,hcs,hni⟩:=hT.out.row
     have hrow3:=OT Bp _ (by omega) (Ab' hrow kb)
     have hpo3:=hid (OT _ _ (by omega) (Ab' hT.out.po kb))
     have hbe3:=hid (BL _ _ (by omega) (bS hT.out.be kb))
     have hbox3:=hid (LV.box hv92.out)
     have hpts3:Hid (∀ t,t<j→BX' u3 Bp (t*6) (Bp' a b (s0,s1) l (t+1))):=hid (fun t ht=>by
       obtain ⟨A4,c4,B4,d4,E4,e4,G4,g4,z0,z1,z2,z3,z4,z5,hx9⟩:=(hT.out.pts t ht).keep kb
       have e:=hrow3.trans (Ab' hrow kb).symm
       exact ⟨A4,c4,B4,d4,E4,e4,G4,g4,(World.cell?_of_block e).trans z0,(World.cell?_of_block e).trans z1,(World.cell?_of_block e).trans z2,(World.cell?_of_block e).trans z3,(World.cell?_of_block e).trans z4,(World.cell?_of_block e).trans z5,LV.box hx9⟩)
     replace ES:=hid ES
     go_upto_region 9 with fail
     rw [←hw]
     clear hw q0 q1 q2 q3 q4 q5 F0 F1 F2 F3 F4 F5 gs8 gs9 gp9 OT LV BL kb hrow hT hrel b91 b92 hv92 gs hsb hxb LX
     obtain ⟨x0,x1,x2,x3,x4,x5⟩:=Aj ES.out
     obtain ⟨u,hu⟩:=eY (j*6)
     have hu5:u+5<cs.size:=by omega
     obtain ⟨q0,eq0⟩:∃ z,cs[u+0]?=some z:=⟨cs[u+0],by simp⟩
     have f0:=fR u3 Bp (u+0) _ _ hrow3
     have k0:u3.cell? ⟨Bp,u+0,none⟩=some q0:=(cR _ _ _ _ _ _ hrow3).trans eq0
     obtain ⟨q1,eq1⟩:∃ z,cs[u+1]?=some z:=⟨cs[u+1],by simp⟩
     have f1:=fR u3 Bp (u+1) _ _ hrow3
     have k1:u3.cell? ⟨Bp,u+1,none⟩=some q1:=(cR _ _ _ _ _ _ hrow3).trans eq1
     obtain ⟨q2,eq2⟩:∃ z,cs[u+2]?=some z:=⟨cs[u+2],by simp⟩
     have f2:=fR u3 Bp (u+2) _ _ hrow3
     have k2:u3.cell? ⟨Bp,u+2,none⟩=some q2:=(cR _ _ _ _ _ _ hrow3).trans eq2
     obtain ⟨q3,eq3⟩:∃ z,cs[u+3]?=some z:=⟨cs[u+3],by simp⟩
     have f3:=fR u3 Bp (u+3) _ _ hrow3
     have k3:u3.cell? ⟨Bp,u+3,none⟩=some q3:=(cR _ _ _ _ _ _ hrow3).trans eq3
     obtain ⟨q4,eq4⟩:∃ z,cs[u+4]?=some z:=⟨cs[u+4],by simp⟩
     have f4:=fR u3 Bp (u+4) _ _ hrow3
     have k4:u3.cell? ⟨Bp,u+4,none⟩=some q4:=(cR _ _ _ _ _ _ hrow3).trans eq4
     obtain ⟨q5,eq5⟩:∃ z,cs[u+5]?=some z:=⟨cs[u+5],by simp⟩
     have f5:=fR u3 Bp (u+5) _ _ hrow3
     have k5:u3.cell? ⟨Bp,u+5,none⟩=some q5:=(cR _ _ _ _ _ _ hrow3).trans eq5
     rw [Nat.add_zero] at k0 f0
     obtain ⟨ue,hw⟩:=eX (((((((u3.setCell ⟨Bp,u,none⟩ (.bool (decide (y.1.num<0)))).setCell ⟨Bp,u+1,none⟩ (.slice A3 (Vx.len y.1.num.natAbs) c3)).setCell ⟨Bp,u+2,none⟩ (.slice B3 (Vx.len (below y.1.den)) d3)).setCell ⟨Bp,u+3,none⟩ (.bool (decide (y.2.num<0)))).setCell ⟨Bp,u+4,none⟩ (.slice E3 (Vx.len y.2.num.natAbs) e3)).setCell ⟨Bp,u+5,none⟩ (.slice G3 (Vx.len (below y.2.den)) g3)))
     obtain ⟨cs',hr3,hsz,hold,⟨n0,n1,n2,n3,n4,n5⟩,OT,hs9,BL⟩:=EI hrow3 hu5 hw
     have hle:u3.heap.size≤ue.heap.size:=Nat.le_of_eq hs9.symm
     have FIN:Hid (FollowTo w (.cells #[.bool (decide (a.num<0)),.slice C1 (Vx.len a.num.natAbs) j1,.slice C2 (Vx.len (below a.den)) j2,.bool (decide (b.num<0)),.slice C3 (Vx.len b.num.natAbs) j3,.slice C4 (Vx.len (below b.den)) j4,.bool (decide (r.num<0)),.slice C5 (Vx.len r.num.natAbs) j5,.slice C6 (Vx.len (below r.den)) j6] 39 (0,0)) l a b (s0,s1) Bp n (j+1) ue):=by
       refine hid ⟨⟨cs',hr3,by rw [hsz,hcs],fun i k m h=>?_⟩,fun t ht=>?_,OT _ _ (by omega) hpo3.out,⟨A3,c3,B3,d3,E3,e3,G3,g3,?_,?_⟩,BL _ _ (by omega) hbe3.out⟩
       · rcases Decidable.em (i<u∨u+5<i) with h9 | h9
         · rw [hold i h9] at h;exact hni i k m h
         · have h8:i=u∨i=u+1∨i=u+2∨i=u+3∨i=u+4∨i=u+5:=by omega
           rcases h8 with rfl | rfl | rfl | rfl | rfl | rfl
           · rw [n0] at h;simp at h
           · rw [n1] at h;simp at h
           · rw [n2] at h;simp at h
           · rw [n3] at h;simp at h
           · rw [n4] at h;simp at h
           · rw [n5] at h;simp at h
       · rcases Nat.lt_or_ge t j with h9 | h9
         · obtain ⟨A5,c5,B5,d5,E5,e5,G5,g5,z0,z1,z2,z3,z4,z5,hx⟩:=hpts3.out t h9
           rw [cR _ _ _ _ _ _ hrow3] at z0 z1 z2 z3 z4 z5
           exact ⟨A5,c5,B5,d5,E5,e5,G5,g5,(cR _ _ _ _ _ _ hr3).trans ((hold _ (by omega)).trans z0),(cR _ _ _ _ _ _ hr3).trans ((hold _ (by omega)).trans z1),(cR _ _ _ _ _ _ hr3).trans ((hold _ (by omega)).trans z2),(cR _ _ _ _ _ _ hr3).trans ((hold _ (by omega)).trans z3),(cR _ _ _ _ _ _ hr3).trans ((hold _ (by omega)).trans z4),(cR _ _ _ _ _ _ hr3).trans ((hold _ (by omega)).trans z5),Cv hle hrow3 hni OT hx⟩
         · obtain rfl:t=j:=by omega
           rw [hu,ey.out]
           exact ⟨A3,c3,B3,d3,E3,e3,G3,g3,(cR _ _ _ _ _ _ hr3).trans n0,(cR _ _ _ _ _ _ hr3).trans n1,(cR _ _ _ _ _ _ hr3).trans n2,(cR _ _ _ _ _ _ hr3).trans n3,(cR _ _ _ _ _ _ hr3).trans n4,(cR _ _ _ _ _ _ hr3).trans n5,Cv hle hrow3 hni OT hbox3.out⟩
       · rw [ey.out];exact OT _ _ (by omega) ES.out
       · rw [ey.out];exact Cv hle hrow3 hni OT hbox3.out
     clear hrow3 hr3 hsz hold n0 n1 n2 n3 n4 n5 OT hs9 BL hle hni hpo3 hbe3 hbox3 hpts3 eq0 eq1 eq2 eq3 eq4 eq5 hcs hu5 ES
     replace hw:=hid hw
     go_wp2_with fail
     rw [←hw.out]
     clear hw k0 k1 k2 k3 k4 k5 f0 f1 f2 f3 f4 f5 x0 x1 x2 x3 x4 x5
     go_roundw
     case rel=>exact ⟨j+1,hjn,by go_num,FIN⟩
     case measure=>simp [intOf];omega
   · obtain rfl:j=n:=Nat.le_antisymm hj hjn
     have hin:decide (j<j)=false:=dF_ (Nat.lt_irrefl _)
     have HP:=hid hrel.out.pts
     have HB:=hid hrel.out.be
     clear hrel
     go_wp2_with fail
     go_ret2
     exact ⟨Bp,rfl,HP.out,HB.out⟩
theorem Fk' {w:World} {v:Value} {a b r x y lo hi:Rat} {rb ro c:Nat} (hp:AA' w v a b r) (hl:AG w rb ro [x,y]) (hg:Ar' a b r) (sx:Aa' x≤1000000) (sy:Aa' y≤1000000) (sr:Aa' r≤1000000∧0≤r) (sg:Aa' a≤1000000∧Aa' b≤1000000) (el:CB Bo' (x - r) (x+r) (y - r) (y+r) a b=lo) (eh:CB' Bo' (x - r) (x+r) (y - r) (y+r) a b=hi) :
   Calls Tryz.prog 29 #[v,.slice (some ⟨rb,ro,none⟩) 2 c] w (B1' w lo hi 0):=by
 obtain ⟨A1,c1,B1,d1,e0,e1,e2,hx⟩:=hl.at (i:=0) rfl
 obtain ⟨A2,c2,B2,d2,f0,f1,f2,hy⟩:=hl.at (i:=1) rfl
 simp only [Nat.zero_mul,Nat.one_mul,Nat.add_zero] at e0 e1 e2 f0 f1 f2
 have hrb:=bL w _ e0
 replace hl:=hid hl
 replace hg:=hid hg
 replace hx:=hid hx
 replace hy:=hid hy
 replace el:=hid el
 replace eh:=hid eh
 replace sx:=hid sx
 replace sy:=hid sy
 replace sr:=hid sr
 replace sg:=hid sg
 obtain ⟨C1,j1,C2,j2,C3,j3,C4,j4,C5,j5,C6,j6,rfl,hpg,hpe⟩:=id hp.opened
 replace hp:=hid hp
 replace hpg:=hid hpg
 replace hpe:=hid hpe
 obtain ⟨w1,hw1⟩:=eX (((w.alloc (.cells #[.bool (decide (a.num<0)),.slice C1 (Vx.len a.num.natAbs) j1,.slice C2 (Vx.len (below a.den)) j2,.bool (decide (b.num<0)),.slice C3 (Vx.len b.num.natAbs) j3,.slice C4 (Vx.len (below b.den)) j4,.bool (decide (r.num<0)),.slice C5 (Vx.len r.num.natAbs) j5,.slice C6 (Vx.len (below r.den)) j6] 39)).alloc (.cells #[.bool false,.slice none 0 0,.slice none 0 0,.bool false,.slice none 0 0,.slice none 0 0] 37)))
 obtain ⟨b1,g1,g2⟩:=AL' hw1
 replace g1:=hid g1
 replace g2:=hid g2
 replace b1:=hid b1
 go_enter Tryz.func29,Tryz.ntmps29
 go_upto_region 1 with fail
 rw [←hw1]
 clear hw1
 have hg:w1.heap[w.heap.size]?=some (.cells #[.bool (decide (a.num<0)),.slice C1 (Vx.len a.num.natAbs) j1,.slice C2 (Vx.len (below a.den)) j2,.bool (decide (b.num<0)),.slice C3 (Vx.len b.num.natAbs) j3,.slice C4 (Vx.len (below b.den)) j4,.bool (decide (r.num<0)),.slice C5 (Vx.len r.num.natAbs) j5,.slice C6 (Vx.len (below r.den)) j6] 39 (0,0)):=((Below.refl _ w1).block _ (gE.1 g1.out).1).trans g1.out
 have z_p_0:w1.cell? ⟨w.heap.size,0,none⟩=some (.bool (decide (a.num<0))):=cR _ _ _ _ _ _ hg
 have z_p_1:w1.cell? ⟨w.heap.size,1,none⟩=some (.slice C1 (Vx.len a.num.natAbs) j1):=cR _ _ _ _ _ _ hg
 have z_p_2:w1.cell? ⟨w.heap.size,2,none⟩=some (.slice C2 (Vx.len (below a.den)) j2):=cR _ _ _ _ _ _ hg
 have z_p_3:w1.cell? ⟨w.heap.size,3,none⟩=some (.bool (decide (b.num<0))):=cR _ _ _ _ _ _ hg
 have z_p_4:w1.cell? ⟨w.heap.size,4,none⟩=some (.slice C3 (Vx.len b.num.natAbs) j3):=cR _ _ _ _ _ _ hg
 have z_p_5:w1.cell? ⟨w.heap.size,5,none⟩=some (.slice C4 (Vx.len (below b.den)) j4):=cR _ _ _ _ _ _ hg
 have z_p_6:w1.cell? ⟨w.heap.size,6,none⟩=some (.bool (decide (r.num<0))):=cR _ _ _ _ _ _ hg
 have z_p_7:w1.cell? ⟨w.heap.size,7,none⟩=some (.slice C5 (Vx.len r.num.natAbs) j5):=cR _ _ _ _ _ _ hg
 have z_p_8:w1.cell? ⟨w.heap.size,8,none⟩=some (.slice C6 (Vx.len (below r.den)) j6):=cR _ _ _ _ _ _ hg
 clear hg
 have HX:=hid (Bz (n:=2) (k:=2) (hp.out.keep b1.out) hg.out (nT sg.out.1 (by omega)) (nT sg.out.2 (by omega)) (by omega) (by omega))
 go_wp2_with fail
 refine (HX.out).mono ?_
 rintro e w2 ⟨rfl,b2⟩
 replace b2:=hid b2
 clear HX
 have hg:w2.heap[w.heap.size]?=some (.cells #[.bool (decide (a.num<0)),.slice C1 (Vx.len a.num.natAbs) j1,.slice C2 (Vx.len (below a.den)) j2,.bool (decide (b.num<0)),.slice C3 (Vx.len b.num.natAbs) j3,.slice C4 (Vx.len (below b.den)) j4,.bool (decide (r.num<0)),.slice C5 (Vx.len r.num.natAbs) j5,.slice C6 (Vx.len (below r.den)) j6] 39 (0,0)):=(b2.out.block _ (gE.1 g1.out).1).trans g1.out
 have z_p_0:w2.cell? ⟨w.heap.size,0,none⟩=some (.bool (decide (a.num<0))):=cR _ _ _ _ _ _ hg
 have z_p_1:w2.cell? ⟨w.heap.size,1,none⟩=some (.slice C1 (Vx.len a.num.natAbs) j1):=cR _ _ _ _ _ _ hg
 have z_p_2:w2.cell? ⟨w.heap.size,2,none⟩=some (.slice C2 (Vx.len (below a.den)) j2):=cR _ _ _ _ _ _ hg
 have z_p_3:w2.cell? ⟨w.heap.size,3,none⟩=some (.bool (decide (b.num<0))):=cR _ _ _ _ _ _ hg
 have z_p_4:w2.cell? ⟨w.heap.size,4,none⟩=some (.slice C3 (Vx.len b.num.natAbs) j3):=cR _ _ _ _ _ _ hg
 have z_p_5:w2.cell? ⟨w.heap.size,5,none⟩=some (.slice C4 (Vx.len (below b.den)) j4):=cR _ _ _ _ _ _ hg
 have z_p_6:w2.cell? ⟨w.heap.size,6,none⟩=some (.bool (decide (r.num<0))):=cR _ _ _ _ _ _ hg
 have z_p_7:w2.cell? ⟨w.heap.size,7,none⟩=some (.slice C5 (Vx.len r.num.natAbs) j5):=cR _ _ _ _ _ _ hg
 have z_p_8:w2.cell? ⟨w.heap.size,8,none⟩=some (.slice C6 (Vx.len (below r.den)) j6):=cR _ _ _ _ _ _ hg
 clear hg
 go_upto_region 4 with fail
 have y0_2:=hid (bS b1.out b2.out)
 have x0:w2.cell? ⟨rb,ro,none⟩=some (.bool (decide (x.num<0))):=(y0_2.out.cell (p:=⟨rb,ro,none⟩) hrb).trans e0
 have x1:w2.cell? ⟨rb,ro+1,none⟩=some (.slice A1 (Vx.len x.num.natAbs) c1):=(y0_2.out.cell (p:=⟨rb,ro+1,none⟩) hrb).trans e1
 have x2:w2.cell? ⟨rb,ro+2,none⟩=some (.slice B1 (Vx.len (below x.den)) d1):=(y0_2.out.cell (p:=⟨rb,ro+2,none⟩) hrb).trans e2
 have y0:w2.cell? ⟨rb,ro+3,none⟩=some (.bool (decide (y.num<0))):=(y0_2.out.cell (p:=⟨rb,ro+3,none⟩) hrb).trans f0
 have y1:w2.cell? ⟨rb,ro+3+1,none⟩=some (.slice A2 (Vx.len y.num.natAbs) c2):=(y0_2.out.cell (p:=⟨rb,ro+3+1,none⟩) hrb).trans f1
 have y2:w2.cell? ⟨rb,ro+3+2,none⟩=some (.slice B2 (Vx.len (below y.den)) d2):=(y0_2.out.cell (p:=⟨rb,ro+3+2,none⟩) hrb).trans f2
 have hrb2:rb<w2.heap.size:=ltl hrb y0_2.out.size
 have hpb:w.heap.size<w2.heap.size:=Al' (Ab' g1.out b2.out)
 go_wp2_with fail
 refine wp_region_held_drew (S:=(fun w'=>w'.cell? ⟨w.heap.size,0,none⟩=w2.cell? ⟨w.heap.size,0,none⟩∧w'.cell? ⟨w.heap.size,1,none⟩=w2.cell? ⟨w.heap.size,1,none⟩∧w'.cell? ⟨w.heap.size,2,none⟩=w2.cell? ⟨w.heap.size,2,none⟩∧w'.cell? ⟨w.heap.size,3,none⟩=w2.cell? ⟨w.heap.size,3,none⟩∧w'.cell? ⟨w.heap.size,4,none⟩=w2.cell? ⟨w.heap.size,4,none⟩∧w'.cell? ⟨w.heap.size,5,none⟩=w2.cell? ⟨w.heap.size,5,none⟩∧w'.cell? ⟨w.heap.size,6,none⟩=w2.cell? ⟨w.heap.size,6,none⟩∧w'.cell? ⟨w.heap.size,7,none⟩=w2.cell? ⟨w.heap.size,7,none⟩∧w'.cell? ⟨w.heap.size,8,none⟩=w2.cell? ⟨w.heap.size,8,none⟩∧w'.cell? ⟨rb,ro,none⟩=w2.cell? ⟨rb,ro,none⟩∧w'.cell? ⟨rb,ro+1,none⟩=w2.cell? ⟨rb,ro+1,none⟩∧w'.cell? ⟨rb,ro+2,none⟩=w2.cell? ⟨rb,ro+2,none⟩∧w'.cell? ⟨rb,ro+3,none⟩=w2.cell? ⟨rb,ro+3,none⟩∧w'.cell? ⟨rb,ro+3+1,none⟩=w2.cell? ⟨rb,ro+3+1,none⟩∧w'.cell? ⟨rb,ro+3+2,none⟩=w2.cell? ⟨rb,ro+3+2,none⟩)) (by kernel_rfl) ?_ (fun hHeld=>?_)
 · (try dsimp only)
   exact ⟨rfl,rfl,rfl,rfl,rfl,rfl,rfl,rfl,rfl,rfl,rfl,rfl,rfl,rfl,rfl⟩
 obtain ⟨wd,hwd⟩:=eX w2.drew
 have bd:Hid (Below w2.heap.size w2 wd):=hid (by rw [hwd];exact ⟨rfl,rfl,rfl,nL _,fun _ _=>rfl⟩)
 rw [←hwd] at hHeld ⊢
 clear hwd
 have hSof:Hid (∀ z:World,Below wd.heap.size wd z→z.cell? ⟨w.heap.size,0,none⟩=w2.cell? ⟨w.heap.size,0,none⟩∧z.cell? ⟨w.heap.size,1,none⟩=w2.cell? ⟨w.heap.size,1,none⟩∧z.cell? ⟨w.heap.size,2,none⟩=w2.cell? ⟨w.heap.size,2,none⟩∧z.cell? ⟨w.heap.size,3,none⟩=w2.cell? ⟨w.heap.size,3,none⟩∧z.cell? ⟨w.heap.size,4,none⟩=w2.cell? ⟨w.heap.size,4,none⟩∧z.cell? ⟨w.heap.size,5,none⟩=w2.cell? ⟨w.heap.size,5,none⟩∧z.cell? ⟨w.heap.size,6,none⟩=w2.cell? ⟨w.heap.size,6,none⟩∧z.cell? ⟨w.heap.size,7,none⟩=w2.cell? ⟨w.heap.size,7,none⟩∧z.cell? ⟨w.heap.size,8,none⟩=w2.cell? ⟨w.heap.size,8,none⟩∧z.cell? ⟨rb,ro,none⟩=w2.cell? ⟨rb,ro,none⟩∧z.cell? ⟨rb,ro+1,none⟩=w2.cell? ⟨rb,ro+1,none⟩∧z.cell? ⟨rb,ro+2,none⟩=w2.cell? ⟨rb,ro+2,none⟩∧z.cell? ⟨rb,ro+3,none⟩=w2.cell? ⟨rb,ro+3,none⟩∧z.cell? ⟨rb,ro+3+1,none⟩=w2.cell? ⟨rb,ro+3+1,none⟩∧z.cell? ⟨rb,ro+3+2,none⟩=w2.cell? ⟨rb,ro+3+2,none⟩):=hid (fun z hz=>by
   have k:=bS bd.out hz
   exact ⟨k.cell (p:=⟨w.heap.size,0,none⟩) hpb,k.cell (p:=⟨w.heap.size,1,none⟩) hpb,k.cell (p:=⟨w.heap.size,2,none⟩) hpb,k.cell (p:=⟨w.heap.size,3,none⟩) hpb,k.cell (p:=⟨w.heap.size,4,none⟩) hpb,k.cell (p:=⟨w.heap.size,5,none⟩) hpb,k.cell (p:=⟨w.heap.size,6,none⟩) hpb,k.cell (p:=⟨w.heap.size,7,none⟩) hpb,k.cell (p:=⟨w.heap.size,8,none⟩) hpb,k.cell (p:=⟨rb,ro,none⟩) hrb2,k.cell (p:=⟨rb,ro+1,none⟩) hrb2,k.cell (p:=⟨rb,ro+2,none⟩) hrb2,k.cell (p:=⟨rb,ro+3,none⟩) hrb2,k.cell (p:=⟨rb,ro+3+1,none⟩) hrb2,k.cell (p:=⟨rb,ro+3+2,none⟩) hrb2⟩)
 refine tk (i:=0) (h:=?_)
 try simp only [Act.put,lt,ly,lu]
 refine tk (i:=1) (h:=?_)
 try simp only [Act.put,lt,ly,lu]
 refine tk (i:=2) (h:=?_)
 try simp only [Act.put,lt,ly,lu]
 refine tk (i:=3) (h:=?_)
 try simp only [Act.put,lt,ly,lu]
 refine tk (i:=4) (h:=?_)
 try simp only [Act.put,lt,ly,lu]
 refine tk (i:=5) (h:=?_)
 try simp only [Act.put,lt,ly,lu]
 refine tk (i:=6) (h:=?_)
 try simp only [Act.put,lt,ly,lu]
 clear hHeld
 refine AK (base:=1) [jc 7 26 [] (fun V U=>Ao' U V lo hi) [],ja 8 7 (.cells #[.bool false,.slice none 0 0,.slice none 0 0,.bool false,.slice none 0 0,.slice none 0 0] 37)] (by kernel_rfl) hSof.out ⟨fun _ _=>⟨rfl,rfl⟩,fun _ _=>⟨rfl,rfl⟩,trivial⟩ ⟨fun _ _ _ _ h hb=>h.keep hb,B4' _ _ _,trivial⟩ ⟨trivial,trivial,trivial⟩ ⟨?_,?_,trivial⟩ ?_
 · refine Aj' (h:=fun lv lb U HB hd K hK=>?_)
   simp only [W,Ae,Af',zfa,zfb,zfc,zfd,zfe,Job.ws,jc,jt,jf,ja,jl,zff,zfg,Ag',Act.put,lt,ly,lu]
   go_simp
   go_at_call 68
   refine (H6 ((hp.out.keep y0_2.out).keep (bS bd.out HB)) ((hx.out.keep y0_2.out).keep (bS bd.out HB)) ((hy.out.keep y0_2.out).keep (bS bd.out HB)) sx.out sy.out sr.out.1 sg.out sr.out.2 el.out eh.out).mono ?_
   rintro eK u9 ⟨V,rfl,kk,b9⟩
   exact hK.out V 0 u9 _ b9 nofun kk (by kernel_rfl)
 · refine Cl' (h:=fun lv lb U=>⟨by rfl,?_⟩)
   simp only [W,Ae,Af',zfa,zfb,zfc,zfd,zfe,Job.ws,jc,jt,jf,ja,jl,zff,zfg,Ag',Act.put,lt,ly,lu]
   go_simp
 intro lv lb u HB hF hD
 have k7:=hF.1.1
 have k8:=hF.2.1.1
 have l8:=hF.2.1.2 rfl
 clear hF hD
 simp only [W,Ae,Af',zfa,zfb,zfc,zfd,zfe,Job.ws,jc,jt,jf,ja,jl,zff,zfg,Ag',Act.put,lt,ly,lu]
 replace k7:Ao' u (lv 7) lo hi:=k7
 replace k8:u.heap[lb 8]?=some (.cells #[.bool false,.slice none 0 0,.slice none 0 0,.bool false,.slice none 0 0,.slice none 0 0] 37):=k8
 replace l8:wd.heap.size≤lb 8:=l8
 generalize lb 8=b8 at *
 generalize lv 7=v7 at *
 clear lv lb
 obtain ⟨Aq,cq,Bq,dq,Eq,eq,Gq,gq,rfl,-,-,-,-⟩:=id k7.opened
 refine BA' (fun i=>i==9) (by kernel_rfl) (fun i hp=>?_)
 obtain rfl:=beq_iff_eq.1 hp
 clear hp
 refine AllReadyH.cons (o:=?o9) ?e9 ?k9 AllReadyH.nil
 case e9=>simp only [lg,lz,ls] <;> rfl
 intro K hK
 have D9:=k8
 obtain ⟨q0,q1,q2,q3,q4,q5⟩:=Aj D9
 have F0:=fR u b8 0 _ _ D9
 have F1:=fR u b8 1 _ _ D9
 have F2:=fR u b8 2 _ _ D9
 have F3:=fR u b8 3 _ _ D9
 have F4:=fR u b8 4 _ _ D9
 have F5:=fR u b8 5 _ _ D9
 go_simp
 clear q0 F0 q1 F1 q2 F2 q3 F3 q4 F4 q5 F5
 obtain ⟨w3,hw⟩:=eX (((((((u.setCell ⟨b8,0,none⟩ (.bool (decide (lo.num<0)))).setCell ⟨b8,1,none⟩ (.slice Aq (Vx.len lo.num.natAbs) cq)).setCell ⟨b8,2,none⟩ (.slice Bq (Vx.len (below lo.den)) dq)).setCell ⟨b8,3,none⟩ (.bool (decide (hi.num<0)))).setCell ⟨b8,4,none⟩ (.slice Eq (Vx.len hi.num.natAbs) eq)).setCell ⟨b8,5,none⟩ (.slice Gq (Vx.len (below hi.den)) gq)))
 obtain ⟨E9,OT,LV,BL⟩:=AF D9 hw
 rw [←hw]
 clear hw
 have HB9:=BL _ _ l8 HB
 have k7_9:=LV.box k7
 refine hK.out _ _ (hSof.out _ HB9) (fun _=>?_)
 clear hK K OT LV BL D9
 try simp only [Act.put,lt,ly,lu]
 refine wpAnyH_done (by kernel_rfl) ?_ _
 have b3:=hid (bS bd.out HB9)
 have EA:=hid E9
 have KO:=hid k7_9
 clear hSof E9 k7_9
 go_wp2_with fail
 go_loopw [8] (fun iv wr=>iv=.int .i64 2∧wr=w3) (fun _ _=>0)
 case atStart=>exact ⟨rfl,rfl⟩
 case round =>
   obtain ⟨rfl,hwr⟩:=hrel
   rw [hwr]
   clear hwr
   obtain ⟨z_all_0,z_all_1,z_all_2,z_all_3,z_all_4,z_all_5⟩:=Aj EA.out
   have y1_3:=hid (bS b2.out b3.out)
   have DR:=(Ab' g2.out y1_3.out)
   have q0:w3.cell? ⟨w.heap.size+1,0,none⟩=some (.bool false):=cR _ _ _ _ _ _ DR
   have F0:w3.frozen? ⟨w.heap.size+1,0,none⟩=false:=fR w3 (w.heap.size+1) 0 _ _ DR
   have q1:w3.cell? ⟨w.heap.size+1,1,none⟩=some (.slice none 0 0):=cR _ _ _ _ _ _ DR
   have F1:w3.frozen? ⟨w.heap.size+1,1,none⟩=false:=fR w3 (w.heap.size+1) 1 _ _ DR
   have q2:w3.cell? ⟨w.heap.size+1,2,none⟩=some (.slice none 0 0):=cR _ _ _ _ _ _ DR
   have F2:w3.frozen? ⟨w.heap.size+1,2,none⟩=false:=fR w3 (w.heap.size+1) 2 _ _ DR
   have q3:w3.cell? ⟨w.heap.size+1,3,none⟩=some (.bool false):=cR _ _ _ _ _ _ DR
   have F3:w3.frozen? ⟨w.heap.size+1,3,none⟩=false:=fR w3 (w.heap.size+1) 3 _ _ DR
   have q4:w3.cell? ⟨w.heap.size+1,4,none⟩=some (.slice none 0 0):=cR _ _ _ _ _ _ DR
   have F4:w3.frozen? ⟨w.heap.size+1,4,none⟩=false:=fR w3 (w.heap.size+1) 4 _ _ DR
   have q5:w3.cell? ⟨w.heap.size+1,5,none⟩=some (.slice none 0 0):=cR _ _ _ _ _ _ DR
   have F5:w3.frozen? ⟨w.heap.size+1,5,none⟩=false:=fR w3 (w.heap.size+1) 5 _ _ DR
   have y0_3:=hid (bS y0_2.out b3.out)
   have FB:=y0_3.out
   have FV:=KO.out
   obtain ⟨ue,hw⟩:=eX (((((((w3.setCell ⟨w.heap.size+1,0,none⟩ (.bool (decide (lo.num<0)))).setCell ⟨w.heap.size+1,1,none⟩ (.slice Aq (Vx.len lo.num.natAbs) cq)).setCell ⟨w.heap.size+1,2,none⟩ (.slice Bq (Vx.len (below lo.den)) dq)).setCell ⟨w.heap.size+1,3,none⟩ (.bool (decide (hi.num<0)))).setCell ⟨w.heap.size+1,4,none⟩ (.slice Eq (Vx.len hi.num.natAbs) eq)).setCell ⟨w.heap.size+1,5,none⟩ (.slice Gq (Vx.len (below hi.den)) gq)))
   obtain ⟨E_ue,-,LV,BL⟩:=AF DR hw
   have FE:=hid (LV.box FV)
   replace FB:=hid (BL _ _ (by omega) FB)
   replace E_ue:=hid E_ue
   replace hw:=hid hw
   clear DR FV LV BL
   go_wp2_with fail
   rw [←hw.out]
   obtain ⟨r0,r1,r2,r3,r4,r5⟩:=Aj E_ue.out
   refine bP (v:=.tuple #[.agg #[.bool (decide (lo.num<0)),.slice Aq (Vx.len lo.num.natAbs) cq,.slice Bq (Vx.len (below lo.den)) dq,.bool (decide (hi.num<0)),.slice Eq (Vx.len hi.num.natAbs) eq,.slice Gq (Vx.len (below hi.den)) gq],.int .i64 0]) ?_ rfl ⟨_,rfl,FE.out,FB.out⟩
   simp [results,Tryz.results29,go_sem,r0,r1,r2,r3,r4,r5]
theorem Hc {w:World} {y n:Bool} {k:Int} (hk:(if y then 1 else if n then 2 else 3)=k):Calls Tryz.prog 40 #[.bool y,.bool n] w (fun e w'=>e=.returned (.int .u8 k)∧Below w.heap.size w w'):=hk ▸ Gm'
theorem Hc' {w:World} {v u:Value} {a b c d l h:Rat} (el:leastOf (a / c) [a / d,b / c,b / d]=l) (eh:greatestOf (a / c) [a / d,b / c,b / d]=h) (h0:¬ (c≤0∧0≤d)) (hv:Ao' w v a b) (hu:Ao' w u c d) (sa:Aa' a≤1073741824) (sb:Aa' b≤1073741824) (sc:Aa' c≤1073741824) (sd:Aa' d≤1073741824) :
   Calls Tryz.prog 38 #[v,u] w (B1' w l h 0):=el ▸ eh ▸ G6 hv hu sa sb sc sd h0
theorem Hd' {w:World} {lo hi q:Rat} {br bq:Nat} {A1 B1 A2 B2 A3 B3:Option Addr} {c1 d1 c2 d2 c3 d3:Nat} {y0 y1 y2 y3 y4 y5 y6 y7 y8 y9 y10 y11 y12 y14 y16 y17 y18 y19 y20 y21 y22 y23 y24 y25 y26 y27 y28 y29 y30 y31 y32 y33 y34 y35 y36 y37 y38 y39 y40 y41 y42 y43 y44 y45 y46 y47 y48 y49 y50 y51 y52 y53 y54 y55 y56 y57 y58 y59 y60 y61 y62 y63 y64 y65 y66 y67 y68:Value} {k:Int} {Po:Ending→World→Prop} (hr:w.heap[br]?=some (.cells #[.bool (decide (lo.num<0)),.slice A1 (Vx.len lo.num.natAbs) c1,.slice B1 (Vx.len (below lo.den)) d1,.bool (decide (hi.num<0)),.slice A2 (Vx.len hi.num.natAbs) c2,.slice B2 (Vx.len (below hi.den)) d2] 37 (0,0))) (hD:Ao' w (.agg #[.bool (decide (lo.num<0)),.slice A1 (Vx.len lo.num.natAbs) c1,.slice B1 (Vx.len (below lo.den)) d1,.bool (decide (hi.num<0)),.slice A2 (Vx.len hi.num.natAbs) c2,.slice B2 (Vx.len (below hi.den)) d2]) lo hi) (sl:Aa' lo≤16777216) (sh:Aa' hi≤16777216) (hq:w.heap[bq]?=some (.cells #[.bool (decide (q.num<0)),.slice A3 (Vx.len q.num.natAbs) c3,.slice B3 (Vx.len (below q.den)) d3] 35 (0,0))) (hQ:Ac' w (.agg #[.bool (decide (q.num<0)),.slice A3 (Vx.len q.num.natAbs) c3,.slice B3 (Vx.len (below q.den)) d3]) q) (sq:Aa' q≤400000000) (hk:(if q≤lo then 1 else if hi<q then 2 else 3)=k) (hPo:∀ w',Below w.heap.size w w'→Po (.returned (.tuple #[.int .u8 k,.int .i64 0])) w') :
   (codeAt 8 Tryz.f7).wp Tryz.prog (bodyPost Tryz.prog Tryz.f7 Po) { tmps:=#[y0,y1,y2,y3,y4,y5,y6,y7,y8,y9,y10,y11,y12,.pointer (some ⟨br,0,none⟩),y14,.pointer (some ⟨bq,0,none⟩),y16,y17,y18,y19,y20,y21,y22,y23,y24,y25,y26,y27,y28,y29,y30,y31,y32,y33,y34,y35,y36,y37,y38,y39,y40,y41,y42,y43,y44,y45,y46,y47,y48,y49,y50,y51,y52,y53,y54,y55,y56,y57,y58,y59,y60,y61,y62,y63,y64,y65,y66,y67,y68],defers:=[] } w:=by
 obtain ⟨c9,e9⟩:=eY (cmpQ lo q:Int)
 obtain ⟨c8,e8⟩:=eY (cmpQ hi q:Int)
 have hk2:(if decide (c9≥0)=true then 1 else if decide (c8<0)=true then 2 else 3)=k:=by
   rw [←hk,←e9,←e8]
   simp only [decide_eq_true_eq,cmpQ_lt0,ge_iff_le]
   have h9:0≤cmpQ lo q↔q≤lo:=by
     constructor
     · intro h;exact Rat.not_lt.1 (fun h2=>absurd (cmpQ_lt0.2 h2) (by omega))
     · intro h;exact Int.not_lt.1 (fun h2=>absurd h (Rat.not_le.2 (cmpQ_lt0.1 h2)))
   simp only [h9]
 have hbr:=Al' hr
 have hbq:=Al' hq
 have kl:Aa' lo≤536870912:=by omega
 have kh:Aa' hi≤536870912:=by omega
 have kq:Aa' q≤536870912:=by omega
 clear hk
 replace e9:=hid e9
 replace e8:=hid e8
 replace hk2:=hid hk2
 replace hr:=hid hr
 replace hq:=hid hq
 replace hD:=hid hD
 replace hQ:=hid hQ
 replace kl:=hid kl
 replace kh:=hid kh
 replace kq:=hid kq
 replace sl:=hid sl
 replace sh:=hid sh
 replace hPo:=hid hPo
 show Code.wp _ (Code.seq _ _) _ _ _
 obtain ⟨z_D_0,z_D_1,z_D_2,z_D_3,z_D_4,z_D_5⟩:=Aj hr.out
 obtain ⟨z_q_0,z_q_1,z_q_2⟩:=Ad' hq.out
 go_wp2_with fail
 refine wp_region_held_drew (S:=(fun w'=>(w'.cell? ⟨br,0,none⟩=w.cell? ⟨br,0,none⟩∧w'.cell? ⟨br,1,none⟩=w.cell? ⟨br,1,none⟩∧w'.cell? ⟨br,2,none⟩=w.cell? ⟨br,2,none⟩∧w'.cell? ⟨br,3,none⟩=w.cell? ⟨br,3,none⟩∧w'.cell? ⟨br,4,none⟩=w.cell? ⟨br,4,none⟩∧w'.cell? ⟨br,5,none⟩=w.cell? ⟨br,5,none⟩∧w'.cell? ⟨bq,0,none⟩=w.cell? ⟨bq,0,none⟩∧w'.cell? ⟨bq,1,none⟩=w.cell? ⟨bq,1,none⟩∧w'.cell? ⟨bq,2,none⟩=w.cell? ⟨bq,2,none⟩))) (by kernel_rfl) ?_ (fun hHeld=>?_)
 · (try dsimp only)
   exact ⟨rfl,rfl,rfl,rfl,rfl,rfl,rfl,rfl,rfl⟩
 obtain ⟨w1,hw1⟩:=eX w.drew
 have b1:Hid (Below w.heap.size w w1):=hid (by rw [hw1];exact ⟨rfl,rfl,rfl,nL _,fun _ _=>rfl⟩)
 rw [←hw1] at hHeld ⊢
 clear hw1
 have lbW:w.heap.size≤w1.heap.size:=b1.out.size
 have lbS:w.heap.size≤w1.heap.size:=b1.out.size
 refine tk (i:=0) (h:=?_)
 try simp only [Act.put,lt,ly,lu]
 refine tk (i:=2) (h:=?_)
 try simp only [Act.put,lt,ly,lu]
 refine tk (i:=5) (h:=?_)
 try simp only [Act.put,lt,ly,lu]
 refine tk (i:=7) (h:=?_)
 try simp only [Act.put,lt,ly,lu]
 refine rdz (i:=1) (h:=fun K hK=>?_)
 go_simp;go_at_call 30
 refine (Bm' (hD.out.keep b1.out) (nT sl.out (by omega))).mono ?_
 rintro e w2 ⟨v2,rfl,hv2,b2⟩
 obtain ⟨C1,j1,C2,j2,rfl,-,-⟩:=id hv2.opened
 replace hv2:=hid hv2
 replace b2:=hid b2
 have y0_2:=hid (bS b1.out b2.out)
 have hS:=y0_2.out
 clear hHeld
 refine hK.out _ _ ?_ (fun hHeld=>?_)
 · (try dsimp only)
   exact ⟨hS.cell (p:=⟨br,0,none⟩) hbr,hS.cell (p:=⟨br,1,none⟩) hbr,hS.cell (p:=⟨br,2,none⟩) hbr,hS.cell (p:=⟨br,3,none⟩) hbr,hS.cell (p:=⟨br,4,none⟩) hbr,hS.cell (p:=⟨br,5,none⟩) hbr,hS.cell (p:=⟨bq,0,none⟩) hbq,hS.cell (p:=⟨bq,1,none⟩) hbq,hS.cell (p:=⟨bq,2,none⟩) hbq⟩
 clear hK K hS;try simp only [Act.put,lt,ly,lu]
 refine rdz (i:=3) (h:=fun K hK=>?_)
 go_simp;go_at_call 17
 refine (Bf' e9.out hv2.out (hQ.out.keep y0_2.out) kl.out kq.out).mono ?_
 rintro e w3 ⟨rfl,b3⟩
 replace b3:=hid b3
 have y0_3:=hid (bS y0_2.out b3.out)
 have hS:=y0_3.out
 clear hHeld
 refine hK.out _ _ ?_ (fun hHeld=>?_)
 · (try dsimp only)
   exact ⟨hS.cell (p:=⟨br,0,none⟩) hbr,hS.cell (p:=⟨br,1,none⟩) hbr,hS.cell (p:=⟨br,2,none⟩) hbr,hS.cell (p:=⟨br,3,none⟩) hbr,hS.cell (p:=⟨br,4,none⟩) hbr,hS.cell (p:=⟨br,5,none⟩) hbr,hS.cell (p:=⟨bq,0,none⟩) hbq,hS.cell (p:=⟨bq,1,none⟩) hbq,hS.cell (p:=⟨bq,2,none⟩) hbq⟩
 clear hK K hS;try simp only [Act.put,lt,ly,lu]
 refine tk (i:=4) (h:=?_)
 try simp only [Act.put,lt,ly,lu]
 refine rdz (i:=6) (h:=fun K hK=>?_)
 go_simp;go_at_call 32
 refine (BJ' (hD.out.keep y0_3.out) (nT sh.out (by omega))).mono ?_
 rintro e w4 ⟨v4,rfl,hv4,b4⟩
 obtain ⟨C3,j3,C4,j4,rfl,-,-⟩:=id hv4.opened
 replace hv4:=hid hv4
 replace b4:=hid b4
 have y0_4:=hid (bS y0_3.out b4.out)
 have hS:=y0_4.out
 clear hHeld
 refine hK.out _ _ ?_ (fun hHeld=>?_)
 · (try dsimp only)
   exact ⟨hS.cell (p:=⟨br,0,none⟩) hbr,hS.cell (p:=⟨br,1,none⟩) hbr,hS.cell (p:=⟨br,2,none⟩) hbr,hS.cell (p:=⟨br,3,none⟩) hbr,hS.cell (p:=⟨br,4,none⟩) hbr,hS.cell (p:=⟨br,5,none⟩) hbr,hS.cell (p:=⟨bq,0,none⟩) hbq,hS.cell (p:=⟨bq,1,none⟩) hbq,hS.cell (p:=⟨bq,2,none⟩) hbq⟩
 clear hK K hS;try simp only [Act.put,lt,ly,lu]
 refine rdz (i:=8) (h:=fun K hK=>?_)
 go_simp;go_at_call 17
 refine (Bf' e8.out hv4.out (hQ.out.keep y0_4.out) kh.out kq.out).mono ?_
 rintro e w5 ⟨rfl,b5⟩
 replace b5:=hid b5
 have y0_5:=hid (bS y0_4.out b5.out)
 have hS:=y0_5.out
 clear hHeld
 refine hK.out _ _ ?_ (fun hHeld=>?_)
 · (try dsimp only)
   exact ⟨hS.cell (p:=⟨br,0,none⟩) hbr,hS.cell (p:=⟨br,1,none⟩) hbr,hS.cell (p:=⟨br,2,none⟩) hbr,hS.cell (p:=⟨br,3,none⟩) hbr,hS.cell (p:=⟨br,4,none⟩) hbr,hS.cell (p:=⟨br,5,none⟩) hbr,hS.cell (p:=⟨bq,0,none⟩) hbq,hS.cell (p:=⟨bq,1,none⟩) hbq,hS.cell (p:=⟨bq,2,none⟩) hbq⟩
 clear hK K hS;try simp only [Act.put,lt,ly,lu]
 refine tk (i:=9) (h:=?_)
 try simp only [Act.put,lt,ly,lu]
 refine rdz (i:=10) (h:=fun K hK=>?_)
 go_simp;go_at_call 40
 refine (Hc hk2.out).mono ?_
 rintro e w6 ⟨rfl,b6⟩
 replace b6:=hid b6
 have y0_6:=hid (bS y0_5.out b6.out)
 have hS:=y0_6.out
 clear hHeld
 refine hK.out _ _ ?_ (fun hHeld=>?_)
 · (try dsimp only)
   exact ⟨hS.cell (p:=⟨br,0,none⟩) hbr,hS.cell (p:=⟨br,1,none⟩) hbr,hS.cell (p:=⟨br,2,none⟩) hbr,hS.cell (p:=⟨br,3,none⟩) hbr,hS.cell (p:=⟨br,4,none⟩) hbr,hS.cell (p:=⟨br,5,none⟩) hbr,hS.cell (p:=⟨bq,0,none⟩) hbq,hS.cell (p:=⟨bq,1,none⟩) hbq,hS.cell (p:=⟨bq,2,none⟩) hbq⟩
 clear hK K hS;try simp only [Act.put,lt,ly,lu]
 refine tk (i:=11) (h:=?_)
 try simp only [Act.put,lt,ly,lu]
 refine tk (i:=12) (h:=?_)
 try simp only [Act.put,lt,ly,lu]
 refine wpAnyH_done (by kernel_rfl) ?_ _
 clear hHeld
 have FB:=hid y0_6.out
 go_wp2_with fail
 exact hPo.out _ FB.out
theorem FG {w:World} {lo hi m:Rat} {br bm n:Nat} {A1 B1 A2 B2 A4 B4:Option Addr} {c1 d1 c2 d2 c4 d4:Nat} {y0 y1 y2 y3 y4 y5 y6 y8 y9 y10 y12 y15 y16 y17 y18 y19 y20 y21 y22 y23 y24 y25 y26 y27 y28 y29 y30 y31 y32 y33 y34 y35 y36 y37 y38 y39 y40 y41 y42 y43 y44 y45 y46 y47 y48 y49 y50 y51 y52 y53 y54 y55 y56 y57 y58 y59 y60 y61 y62 y63 y64 y65 y66 y67 y68:Value} {k:Int} {Po:Ending→World→Prop} (hr:w.heap[br]?=some (.cells #[.bool (decide (lo.num<0)),.slice A1 (Vx.len lo.num.natAbs) c1,.slice B1 (Vx.len (below lo.den)) d1,.bool (decide (hi.num<0)),.slice A2 (Vx.len hi.num.natAbs) c2,.slice B2 (Vx.len (below hi.den)) d2] 37 (0,0))) (hD:Ao' w (.agg #[.bool (decide (lo.num<0)),.slice A1 (Vx.len lo.num.natAbs) c1,.slice B1 (Vx.len (below lo.den)) d1,.bool (decide (hi.num<0)),.slice A2 (Vx.len hi.num.natAbs) c2,.slice B2 (Vx.len (below hi.den)) d2]) lo hi) (sl:Aa' lo≤16777216) (sh:Aa' hi≤16777216) (hm:w.heap[bm]?=some (.cells #[.bool (decide (m.num<0)),.slice A4 (Vx.len m.num.natAbs) c4,.slice B4 (Vx.len (below m.den)) d4] 35 (0,0))) (hM:Ac' w (.agg #[.bool (decide (m.num<0)),.slice A4 (Vx.len m.num.natAbs) c4,.slice B4 (Vx.len (below m.den)) d4]) m) (sm:Aa' m≤900000) (hn:n≤200) (hk:(if (1 - m)^n≤lo then 1 else if hi<(1 - m)^n then 2 else 3)=k) (hPo:∀ w',Below w.heap.size w w'→Po (.returned (.tuple #[.int .u8 k,.int .i64 0])) w') :
   (codeAt 6 Tryz.f7).wp Tryz.prog (bodyPost Tryz.prog Tryz.f7 Po) { tmps:=#[y0,y1,y2,y3,y4,y5,y6,.pointer (some ⟨bm,0,none⟩),y8,y9,y10,.int .i64 ((n:Nat):Int),y12,.pointer (some ⟨br,0,none⟩),.int .i64 0,y15,y16,y17,y18,y19,y20,y21,y22,y23,y24,y25,y26,y27,y28,y29,y30,y31,y32,y33,y34,y35,y36,y37,y38,y39,y40,y41,y42,y43,y44,y45,y46,y47,y48,y49,y50,y51,y52,y53,y54,y55,y56,y57,y58,y59,y60,y61,y62,y63,y64,y65,y66,y67,y68],defers:=[] } w:=by
 obtain ⟨o,eo⟩:=eY (((1:Int):Rat):Rat)
 obtain ⟨d,ed⟩:=eY (o - m:Rat)
 obtain ⟨q,eq⟩:=eY (d^n:Rat)
 have eq2:(1 - m)^n=q:=by rw [←eq,←ed,←eo];rfl
 rw [eq2] at hk
 have ko:Aa' o≤3:=by rw [←eo];decide
 have sd:Aa' d≤1000000:=by rw [←ed];have:=Vx.AC' o m;omega
 have ko2:Aa' o≤536870912:=by omega
 have sq:Aa' q≤400000000:=by
   rw [←eq]
   have h1:=DG' d n
   have h2:Aa' d*n≤Aa' d*200:=mL _ (by omega)
   omega
 have km:Aa' m≤536870912:=by omega
 have hbr:=Al' hr
 have hbm:=Al' hm
 clear eq2 ko
 replace eo:=hid eo
 replace ed:=hid ed
 replace eq:=hid eq
 replace ko2:=hid ko2
 replace sd:=hid sd
 replace sq:=hid sq
 replace km:=hid km
 replace hr:=hid hr
 replace hm:=hid hm
 replace hD:=hid hD
 replace hM:=hid hM
 replace sl:=hid sl
 replace sh:=hid sh
 replace hk:=hid hk
 replace hPo:=hid hPo
 show Code.wp _ (Code.seq _ _) _ _ _
 obtain ⟨z_m_0,z_m_1,z_m_2⟩:=Ad' hm.out
 go_upto_region 11 with fail
 rename_i G hG
 replace hG:=hid hG
 go_wp2_with fail
 refine wp_region_held_drew (S:=(fun w'=>w'.cell? ⟨bm,0,none⟩=w.cell? ⟨bm,0,none⟩∧w'.cell? ⟨bm,1,none⟩=w.cell? ⟨bm,1,none⟩∧w'.cell? ⟨bm,2,none⟩=w.cell? ⟨bm,2,none⟩)) (by kernel_rfl) ?_ (fun hHeld=>?_)
 · (try dsimp only)
   exact ⟨rfl,rfl,rfl⟩
 obtain ⟨wd,hwd⟩:=eX w.drew
 have bd:Hid (Below w.heap.size w wd):=hid (by rw [hwd];exact ⟨rfl,rfl,rfl,nL _,fun _ _=>rfl⟩)
 rw [←hwd] at hHeld ⊢
 clear hwd
 have hSof:Hid (∀ z:World,Below wd.heap.size wd z→z.cell? ⟨bm,0,none⟩=w.cell? ⟨bm,0,none⟩∧z.cell? ⟨bm,1,none⟩=w.cell? ⟨bm,1,none⟩∧z.cell? ⟨bm,2,none⟩=w.cell? ⟨bm,2,none⟩):=hid (fun z hz=>by
   have k:=bS bd.out hz
   exact ⟨k.cell (p:=⟨bm,0,none⟩) hbm,k.cell (p:=⟨bm,1,none⟩) hbm,k.cell (p:=⟨bm,2,none⟩) hbm⟩)
 refine tk (i:=1) (h:=?_)
 try simp only [Act.put,lt,ly,lu]
 refine tk (i:=3) (h:=?_)
 try simp only [Act.put,lt,ly,lu]
 clear hHeld
 refine AK (base:=1) [jc 0 53 [] (fun V U=>Ac' U V o) [],jc 2 55 [0] (fun V U=>Ac' U V d) [],jc 4 57 [2] (fun V U=>Ac' U V q) [],ja 5 15 (.cells #[.bool false,.slice none 0 0,.slice none 0 0] 35)] (by kernel_rfl) hSof.out ⟨fun _ _=>⟨rfl,rfl⟩,fun _ _=>⟨rfl,rfl⟩,fun _ _=>⟨rfl,rfl⟩,fun _ _=>⟨rfl,rfl⟩,trivial⟩ ⟨fun _ _ _ _ h hb=>h.keep hb,fun _ _ _ _ h hb=>h.keep hb,fun _ _ _ _ h hb=>h.keep hb,B4' _ _ _,trivial⟩ ⟨trivial,trivial,trivial,trivial,trivial⟩ ⟨?_,?_,?_,?_,trivial⟩ ?_
 · refine Aj' (h:=fun lv lb U HB hd K hK=>?_)
   simp only [W,Ae,Af',zfa,zfb,zfc,zfd,zfe,Job.ws,jc,jt,jf,ja,jl,zff,zfg,Ag',Act.put,lt,ly,lu]
   go_simp
   go_at_call 18
   refine (AE' (w:=U) eo.out (by omega) (by omega)).mono ?_
   rintro eK u9 ⟨V,rfl,kk,b9⟩
   exact hK.out V 0 u9 _ b9 nofun kk (by kernel_rfl)
 · refine Aj' (h:=fun lv lb U HB hd K hK=>?_)
   have k0:Ac' U (lv 0) o:=hd.1 rfl
   simp only [W,Ae,Af',zfa,zfb,zfc,zfd,zfe,Job.ws,jc,jt,jf,ja,jl,zff,zfg,Ag',Act.put,lt,ly,lu]
   go_simp
   go_at_call 21
   refine (Cw' ed.out k0 (hM.out.keep (bS bd.out HB)) ko2.out km.out).mono ?_
   rintro eK u9 ⟨V,rfl,kk,b9⟩
   exact hK.out V 0 u9 _ b9 nofun kk (by kernel_rfl)
 · refine Aj' (h:=fun lv lb U HB hd K hK=>?_)
   have k2:Ac' U (lv 2) d:=hd.2.1 rfl
   simp only [W,Ae,Af',zfa,zfb,zfc,zfd,zfe,Job.ws,jc,jt,jf,ja,jl,zff,zfg,Ag',Act.put,lt,ly,lu]
   go_simp
   go_at_call 39
   refine (Ha k2 hn sd.out eq.out).mono ?_
   rintro eK u9 ⟨V,rfl,kk,b9⟩
   exact hK.out V 0 u9 _ b9 nofun kk (by kernel_rfl)
 · refine Cl' (h:=fun lv lb U=>⟨by rfl,?_⟩)
   simp only [W,Ae,Af',zfa,zfb,zfc,zfd,zfe,Job.ws,jc,jt,jf,ja,jl,zff,zfg,Ag',Act.put,lt,ly,lu]
   go_simp
 intro lv lb u HB hF hD
 have k0:=hF.1.1
 have k2:=hF.2.1.1
 have k4:=hF.2.2.1.1
 have k5:=hF.2.2.2.1.1
 have l5:=hF.2.2.2.1.2 rfl
 clear hF hD
 simp only [W,Ae,Af',zfa,zfb,zfc,zfd,zfe,Job.ws,jc,jt,jf,ja,jl,zff,zfg,Ag',Act.put,lt,ly,lu]
 replace k0:Ac' u (lv 0) o:=k0
 replace k2:Ac' u (lv 2) d:=k2
 replace k4:Ac' u (lv 4) q:=k4
 replace k5:u.heap[lb 5]?=some (.cells #[.bool false,.slice none 0 0,.slice none 0 0] 35):=k5
 replace l5:wd.heap.size≤lb 5:=l5
 generalize lb 5=b5 at *
 generalize lv 0=v0 at *
 generalize lv 2=v2 at *
 generalize lv 4=v4 at *
 clear lv lb
 obtain ⟨Ap,cp,Bp,dp,rfl,-,-⟩:=id k4.opened
 refine BA' (fun i=>i==6) (by kernel_rfl) (fun i hp=>?_)
 obtain rfl:=beq_iff_eq.1 hp
 clear hp
 refine AllReadyH.cons (o:=?o6) ?e6 ?k6 AllReadyH.nil
 case e6=>simp only [lg,lz,ls] <;> rfl
 intro K hK
 have D6:=k5
 obtain ⟨q0,q1,q2⟩:=Ad' D6
 have F0:=fR u b5 0 _ _ D6
 have F1:=fR u b5 1 _ _ D6
 have F2:=fR u b5 2 _ _ D6
 go_simp
 clear q0 F0 q1 F1 q2 F2
 obtain ⟨u2,hw⟩:=eX ((((u.setCell ⟨b5,0,none⟩ (.bool (decide (q.num<0)))).setCell ⟨b5,1,none⟩ (.slice Ap (Vx.len q.num.natAbs) cp)).setCell ⟨b5,2,none⟩ (.slice Bp (Vx.len (below q.den)) dp)))
 obtain ⟨E6,OT,LV,BL⟩:=AE D6 hw
 rw [←hw]
 clear hw
 have HB6:=BL _ _ l5 HB
 have k4_6:=LV.num k4
 refine hK.out _ _ (hSof.out _ HB6) (fun _=>?_)
 clear hK K OT LV BL D6
 try simp only [Act.put,lt,ly,lu]
 refine wpAnyH_done (by kernel_rfl) ?_ _
 have FB:=hid (bS bd.out HB6)
 clear hSof
 go_wp2_with fail
 refine hG.out _ _ ?_
 exact Hd' (Ab' hr.out FB.out) (hD.out.keep FB.out) sl.out sh.out E6 k4_6 sq.out hk.out (fun w' h=>hPo.out w' (Ae' FB.out h))
end Go.Proofs.YtflopjfnppolgaaGreatDoor.Rf
