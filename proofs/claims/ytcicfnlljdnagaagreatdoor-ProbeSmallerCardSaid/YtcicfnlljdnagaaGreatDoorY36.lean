/-
  Contracts of the functions that the law calls, for every input (Ph Pf Pi Pj Val Pk Qm Qn).
-/
import Derived.Test.YtcicfnlljdnagaaGreatDoorY00
import Derived.Test.YtcicfnlljdnagaaGreatDoorY35
import Derived.WalkKit
import Derived.Shelf.Abstract
import Derived.Test.YtcicfnlljdnagaaGreatDoorY31
import Derived.Test.YtcicfnlljdnagaaGreatDoorY19
import Derived.Test.YtcicfnlljdnagaaGreatDoorY29
import Derived.Test.YtcicfnlljdnagaaGreatDoorY12
import Derived.Test.YtcicfnlljdnagaaGreatDoorY30
import Derived.OwnWalk
import Derived.Test.YtcicfnlljdnagaaGreatDoorY34
set_option linter.all false
set_option maxRecDepth 100000
set_option maxHeartbeats 40000000
namespace Go.Proofs.YtcicfnlljdnagaaGreatDoor
open Lib (hid)
open Go.RowKit Go.Shelf
open Vx
attribute [local go_sem] Oper.semAt_some
def EU' (W:World) (A:Option Addr) (n:Nat) (vals:Nat→Value):Prop:=∀ j,j<n→∃ b o s A1 n1 c1 A2 n2 c2,A=some ⟨b,o,none⟩∧vals j=.agg #[.bool s,.slice A1 n1 c1,.slice A2 n2 c2] ∧
  W.cell? ⟨b,o+j*3,none⟩=some (.bool s)∧W.cell? ⟨b,o+j*3+1,none⟩=some (.slice A1 n1 c1)∧W.cell? ⟨b,o+j*3+2,none⟩=some (.slice A2 n2 c2)
theorem EU'.keep {W V:World} {A:Option Addr} {n:Nat} {vals:Nat→Value} (h:EU' W A n vals) (hb:Below W.heap.size W V):EU' V A n vals:=by
 intro j hj
 obtain ⟨b,o,s,A1,n1,c1,A2,n2,c2,e,hv,z0,z1,z2⟩:=h j hj
 have hl:=bL W _ z0
 exact ⟨b,o,s,A1,n1,c1,A2,n2,c2,e,hv,(hb.cell (p:=⟨b,o+j*3,none⟩) hl).trans z0,(hb.cell (p:=⟨b,o+j*3+1,none⟩) hl).trans z1,(hb.cell (p:=⟨b,o+j*3+2,none⟩) hl).trans z2⟩
def cutQ (a b:Rat) (n i:Nat):Rat:=a+(b - a) / ((n:Nat):Rat)*((i:Nat):Rat)
open List renaming getElem?_toArray → lg, getElem?_cons_zero → lz, getElem?_cons_succ → ls, setIfInBounds_toArray → lt, set_cons_zero → ly, set_cons_succ → lu
attribute [local go_sem] Oper.semAt_some
open Rf (Av As')
theorem EV {w:World} {v u:Value} {a b c d x y:Rat} (hx:leastOf (a*c) [a*d,b*c,b*d]=x) (hy:greatestOf (a*c) [a*d,b*c,b*d]=y) (hv:Aj w v a b) (hu:Aj w u c d) (hs1:Ab' a≤1073741824) (hs2:Ab' b≤1073741824) (hs3:Ab' c≤1073741824) (hs4:Ab' d≤1073741824) :
   Calls Tryz.prog 19 #[v,u] w (AQ w x y):=by
 rw [←hx,←hy]
 exact FJ' hv hu hs1 hs2 hs3 hs4
open Go.RowKit
open Rf (As' Av An)
theorem CA' {X Y:World} {B:Nat} {v:Value} {z:Nat} {cs:Array Value} {T:TypeId} {fr:Nat × Nat} (hs:X.heap.size≤Y.heap.size) (hb:X.heap[B]?=some (.cells cs T fr)) (hi:∀ (i:Nat) (k:IntKind) (m:Int),cs[i]?≠some (.int k m)) (h:∀ (n:Nat) (o:Obj),n≠B→X.heap[n]?=some o→Y.heap[n]?=some o) (hz:Nt X v z):Nt Y v z:=by
 obtain ⟨A,c,h1,h2,h3,h4,h5⟩:=hz
 refine ⟨A,c,h1,h2,h3,h4,fun hx=>?_⟩
 obtain ⟨b,o,h6,h7,h8⟩:=h5 hx
 have hne:b≠B:=by
   rintro rfl
   have h9:=h8 0 (Ai'.2 hx)
   rw [cR _ _ _ _ _ _ hb] at h9
   exact hi _ _ _ h9
 exact ⟨b,o,h6,ltl h7 hs,fun j hj=>(World.cell?_of_block (a:=⟨b,o+j,none⟩) ((h b _ hne (show X.heap[b]?=some X.heap[b] by simp [h7])).trans (show X.heap[b]?=some X.heap[b] by simp [h7]).symm)).trans (h8 j hj)⟩
theorem Co {X Y:World} {B:Nat} {v:Value} {p q:Rat} {cs:Array Value} {T:TypeId} {fr:Nat × Nat} (hs:X.heap.size≤Y.heap.size) (hb:X.heap[B]?=some (.cells cs T fr)) (hi:∀ (i:Nat) (k:IntKind) (m:Int),cs[i]?≠some (.int k m)) (h:∀ (n:Nat) (o:Obj),n≠B→X.heap[n]?=some o→Y.heap[n]?=some o) (hz:Aj X v p q):Aj Y v p q:=by
 obtain ⟨v1,v2,v3,v4,e,h1,h2,h3,h4⟩:=hz
 exact ⟨v1,v2,v3,v4,e,CA' hs hb hi h h1,CA' hs hb hi h h2,CA' hs hb hi h h3,CA' hs hb hi h h4⟩
theorem Eo' {W W':World} {B u:Nat} {cs:Array Value} {T:TypeId} {v0 v1 v2 v3 v4 v5:Value} (h:W.heap[B]?=some (.cells cs T (0,0))) (hu:u+5<cs.size)
   (hw:W'=((((((W.setCell ⟨B,u,none⟩ v0).setCell ⟨B,u+1,none⟩ v1).setCell ⟨B,u+2,none⟩ v2).setCell ⟨B,u+3,none⟩ v3).setCell ⟨B,u+4,none⟩ v4).setCell ⟨B,u+5,none⟩ v5)) :
   ∃ cs',W'.heap[B]?=some (.cells cs' T (0,0))∧cs'.size=cs.size∧(∀ k,k<u∨u+5<k→cs'[k]?=cs[k]?)∧(cs'[u]?=some v0∧cs'[u+1]?=some v1∧cs'[u+2]?=some v2∧cs'[u+3]?=some v3∧cs'[u+4]?=some v4∧cs'[u+5]?=some v5) ∧
     (∀ (n:Nat) (o:Obj),n≠B→W.heap[n]?=some o→W'.heap[n]?=some o)∧W'.heap.size=W.heap.size∧(∀ (N:Nat) (wB:World),N≤B→Below N wB W→Below N wB W'):=by
 have g1:=heap_setCell_same W B u _ _ v0 h
 have g2:=heap_setCell_same _ B (u+1) _ _ v1 g1
 have g3:=heap_setCell_same _ B (u+2) _ _ v2 g2
 have g4:=heap_setCell_same _ B (u+3) _ _ v3 g3
 have g5:=heap_setCell_same _ B (u+4) _ _ v4 g4
 have g6:=heap_setCell_same _ B (u+5) _ _ v5 g5
 refine ⟨_,by rw [hw];exact g6,by simp,fun k hk=>?_,⟨?_,?_,?_,?_,?_,?_⟩,fun n o hne ho=>?_,by rw [hw];simp,fun N wB hN hB=>?_⟩
 · rw [Array.getElem?_setIfInBounds_ne (by omega),Array.getElem?_setIfInBounds_ne (by omega),Array.getElem?_setIfInBounds_ne (by omega),Array.getElem?_setIfInBounds_ne (by omega),Array.getElem?_setIfInBounds_ne (by omega),Array.getElem?_setIfInBounds_ne (by omega)]
 · rw [Array.getElem?_setIfInBounds_ne (by omega),Array.getElem?_setIfInBounds_ne (by omega),Array.getElem?_setIfInBounds_ne (by omega),Array.getElem?_setIfInBounds_ne (by omega),Array.getElem?_setIfInBounds_ne (by omega),Array.getElem?_setIfInBounds_self_of_lt (by (try simp only [Array.size_setIfInBounds]);omega)]
 · rw [Array.getElem?_setIfInBounds_ne (by omega),Array.getElem?_setIfInBounds_ne (by omega),Array.getElem?_setIfInBounds_ne (by omega),Array.getElem?_setIfInBounds_ne (by omega),Array.getElem?_setIfInBounds_self_of_lt (by (try simp only [Array.size_setIfInBounds]);omega)]
 · rw [Array.getElem?_setIfInBounds_ne (by omega),Array.getElem?_setIfInBounds_ne (by omega),Array.getElem?_setIfInBounds_ne (by omega),Array.getElem?_setIfInBounds_self_of_lt (by (try simp only [Array.size_setIfInBounds]);omega)]
 · rw [Array.getElem?_setIfInBounds_ne (by omega),Array.getElem?_setIfInBounds_ne (by omega),Array.getElem?_setIfInBounds_self_of_lt (by (try simp only [Array.size_setIfInBounds]);omega)]
 · rw [Array.getElem?_setIfInBounds_ne (by omega),Array.getElem?_setIfInBounds_self_of_lt (by (try simp only [Array.size_setIfInBounds]);omega)]
 · rw [Array.getElem?_setIfInBounds_self_of_lt (by (try simp only [Array.size_setIfInBounds]);omega)]
 · rw [hw,heap_setCell_other _ _ _ _ hne,heap_setCell_other _ _ _ _ hne,heap_setCell_other _ _ _ _ hne,heap_setCell_other _ _ _ _ hne,heap_setCell_other _ _ _ _ hne,heap_setCell_other _ _ _ _ hne];exact ho
 · rw [hw];exact ((((((hB.setCell (p:=⟨B,u,none⟩) hN _).setCell (p:=⟨B,u+1,none⟩) hN _).setCell (p:=⟨B,u+2,none⟩) hN _).setCell (p:=⟨B,u+3,none⟩) hN _).setCell (p:=⟨B,u+4,none⟩) hN _).setCell (p:=⟨B,u+5,none⟩) hN _)
theorem Gx {w:World} {v:Value} {a b q:Rat} (hq:b - a=q) (hv:Aj w v a b) (sa:Ab' a≤536870912) (sb:Ab' b≤536870912) :
   Calls Tryz.prog 39 #[v] w (Ao' w q):=by
 rw [←hq];exact EQ hv (nT sa (by omega)) (nT sb (by omega))
theorem Aj'.box {wS w:World} {v:Value} {a b:Rat} (h:Aj' wS w) (hv:Aj wS v a b):Aj w v a b:=by
 obtain ⟨v1,v2,v3,v4,e,h1,h2,h3,h4⟩:=hv
 exact ⟨v1,v2,v3,v4,e,h _ _ h1,h _ _ h2,h _ _ h3,h _ _ h4⟩
open Rf (As' Av An At' Ar)
theorem Fg {w:World} {s1 s2:Bool} {A1 A2 A3 A4:Option Addr} {n1 c1 n2 c2 n3 c3 n4 c4:Nat} {p q:Rat} (h1:Ad' w (.agg #[.bool s1,.slice A1 n1 c1,.slice A2 n2 c2]) p) (h2:Ad' w (.agg #[.bool s2,.slice A3 n3 c3,.slice A4 n4 c4]) q) :
   Aj w (.agg #[.bool s1,.slice A1 n1 c1,.slice A2 n2 c2,.bool s2,.slice A3 n3 c3,.slice A4 n4 c4]) p q:=by
 obtain ⟨u1,u2,e1,h3,h4⟩:=h1
 obtain ⟨u3,u4,e2,h5,h6⟩:=h2
 simp only [Value.agg.injEq,Array.mk.injEq,List.cons.injEq,Value.bool.injEq,and_true] at e1 e2
 obtain ⟨rfl,rfl,rfl⟩:=e1
 obtain ⟨rfl,rfl,rfl⟩:=e2
 exact ⟨_,_,_,_,rfl,h3,h4,h5,h6⟩
def D9' (W:World) (Bp:Nat) (a b:Rat) (n i:Nat):Prop:=∀ j,j<i→∃ s1 A1 n1 c1 A2 n2 c2 s2 A3 n3 c3 A4 n4 c4,W.cell? ⟨Bp,j*6,none⟩=some (.bool s1)∧W.cell? ⟨Bp,j*6+1,none⟩=some (.slice A1 n1 c1)∧W.cell? ⟨Bp,j*6+2,none⟩=some (.slice A2 n2 c2) ∧
  W.cell? ⟨Bp,j*6+3,none⟩=some (.bool s2)∧W.cell? ⟨Bp,j*6+4,none⟩=some (.slice A3 n3 c3)∧W.cell? ⟨Bp,j*6+5,none⟩=some (.slice A4 n4 c4)∧Aj W (.agg #[.bool s1,.slice A1 n1 c1,.slice A2 n2 c2,.bool s2,.slice A3 n3 c3,.slice A4 n4 c4]) (cutQ a b n j) (cutQ a b n (j+1))
theorem D9'.keep {W V:World} {Bp:Nat} {a b:Rat} {n i:Nat} (h:D9' W Bp a b n i) (hb:Below W.heap.size W V):D9' V Bp a b n i:=by
 intro j hj
 obtain ⟨s1,A1,n1,c1,A2,n2,c2,s2,A3,n3,c3,A4,n4,c4,z0,z1,z2,z3,z4,z5,hx⟩:=h j hj
 have hl:=bL W _ z0
 exact ⟨_,_,_,_,_,_,_,_,_,_,_,_,_,_,(hb.cell (p:=⟨Bp,j*6,none⟩) hl).trans z0,(hb.cell (p:=⟨Bp,j*6+1,none⟩) hl).trans z1,(hb.cell (p:=⟨Bp,j*6+2,none⟩) hl).trans z2,(hb.cell (p:=⟨Bp,j*6+3,none⟩) hl).trans z3,(hb.cell (p:=⟨Bp,j*6+4,none⟩) hl).trans z4,(hb.cell (p:=⟨Bp,j*6+5,none⟩) hl).trans z5,hx.keep hb⟩
theorem Fr':(Tryz.prog.info? 34).map (fun i=>(i.zero,i.size,i.bytes))=some (some (.agg #[.bool false,.slice none 0 0,.slice none 0 0,.bool false,.slice none 0 0,.slice none 0 0]),6,112):=by kernel_rfl
theorem Fs {n:Nat}:∀ (i:Nat) (k:IntKind) (m:Int),(madeCells (#[.bool false,.slice none 0 0,.slice none 0 0,.bool false,.slice none 0 0,.slice none 0 0]:Array Value) n)[i]?≠some (.int k m):=by
 intro i k m h
 have hm:=Array.mem_of_getElem? h
 simp only [madeCells,Array.mem_map,Array.mem_range] at hm
 obtain ⟨j,-,hj⟩:=hm
 have hlt:j%6<6:=Nat.mod_lt _ (by omega)
 generalize j%6=r at hj hlt
 match r,hlt with
 | 0,_=>simp at hj
 | 1,_=>simp at hj
 | 2,_=>simp at hj
 | 3,_=>simp at hj
 | 4,_=>simp at hj
 | 5,_=>simp at hj
end Go.Proofs.YtcicfnlljdnagaaGreatDoor
namespace Go.Proofs.YtcicfnlljdnagaaGreatDoor.Rf
open Lib (hid)
open Go.RowKit
open Rx
open Vx (Ab' Ah Ah')
open List renaming getElem?_toArray → lg, getElem?_cons_zero → lz, getElem?_cons_succ → ls, setIfInBounds_toArray → lt, set_cons_zero → ly, set_cons_succ → lu
open Go.Proofs.YtcicfnlljdnagaaGreatDoor (Eo' Co Fs Fr')
def BR (W:World) (b o:Nat) (q:Rat × Rat):Prop:=∃ A1 c1 B1 d1 E1 e1 G1 g1,W.cell? ⟨b,o,none⟩=some (.bool (decide (q.1.num<0)))∧W.cell? ⟨b,o+1,none⟩=some (.slice A1 (Vx.len q.1.num.natAbs) c1)∧W.cell? ⟨b,o+2,none⟩=some (.slice B1 (Vx.len (below q.1.den)) d1)∧W.cell? ⟨b,o+3,none⟩=some (.bool (decide (q.2.num<0)))∧W.cell? ⟨b,o+4,none⟩=some (.slice E1 (Vx.len q.2.num.natAbs) e1)∧W.cell? ⟨b,o+5,none⟩=some (.slice G1 (Vx.len (below q.2.den)) g1)∧Aj W (.agg #[.bool (decide (q.1.num<0)),.slice A1 (Vx.len q.1.num.natAbs) c1,.slice B1 (Vx.len (below q.1.den)) d1,.bool (decide (q.2.num<0)),.slice E1 (Vx.len q.2.num.natAbs) e1,.slice G1 (Vx.len (below q.2.den)) g1]) q.1 q.2
theorem BR.keep {W V:World} {b o:Nat} {q:Rat × Rat} (h:BR W b o q) (hb:Below W.heap.size W V):BR V b o q:=by
 obtain ⟨A1,c1,B1,d1,E1,e1,G1,g1,z0,z1,z2,z3,z4,z5,hx⟩:=h
 have hl:=bL W _ z0
 exact ⟨A1,c1,B1,d1,E1,e1,G1,g1,(hb.cell (p:=⟨b,o,none⟩) hl).trans z0,(hb.cell (p:=⟨b,o+1,none⟩) hl).trans z1,(hb.cell (p:=⟨b,o+2,none⟩) hl).trans z2,(hb.cell (p:=⟨b,o+3,none⟩) hl).trans z3,(hb.cell (p:=⟨b,o+4,none⟩) hl).trans z4,(hb.cell (p:=⟨b,o+5,none⟩) hl).trans z5,hx.keep hb⟩
def CJ (W:World) (b o:Nat) (l:List (Rat × Rat)):Prop:=∀ (i:Nat) (q:Rat × Rat),l[i]?=some q→BR W b (o+i*6) q
theorem CJ.keep {W V:World} {b o:Nat} {l:List (Rat × Rat)} (h:CJ W b o l) (hb:Below W.heap.size W V):CJ V b o l:=fun i q hi=>(h i q hi).keep hb
def AH' (W:World) (b:Nat) (q:Rat × Rat):Prop:=∃ A1 c1 B1 d1 E1 e1 G1 g1,W.heap[b]?=some (.cells #[.bool (decide (q.1.num<0)),.slice A1 (Vx.len q.1.num.natAbs) c1,.slice B1 (Vx.len (below q.1.den)) d1,.bool (decide (q.2.num<0)),.slice E1 (Vx.len q.2.num.natAbs) e1,.slice G1 (Vx.len (below q.2.den)) g1] 34 (0,0))∧Aj W (.agg #[.bool (decide (q.1.num<0)),.slice A1 (Vx.len q.1.num.natAbs) c1,.slice B1 (Vx.len (below q.1.den)) d1,.bool (decide (q.2.num<0)),.slice E1 (Vx.len q.2.num.natAbs) e1,.slice G1 (Vx.len (below q.2.den)) g1]) q.1 q.2
theorem AH'.keep {W V:World} {b:Nat} {q:Rat × Rat} (h:AH' W b q) (hb:Below W.heap.size W V):AH' V b q:=by
 obtain ⟨A1,c1,B1,d1,E1,e1,G1,g1,h1,h2⟩:=h
 exact ⟨A1,c1,B1,d1,E1,e1,G1,g1,Ac' h1 hb,h2.keep hb⟩
def Ho (a b:Rat) (s x:Rat × Rat):Rat × Rat:=(cornLo Bt' s.1 s.2 x.1 x.2 a b,cornHi Bt' s.1 s.2 x.1 x.2 a b)
def Bf' (a b:Rat) (s:Rat × Rat) (l:List (Rat × Rat)) (k:Nat):Rat × Rat:=(l.take k).foldl (Ho a b) s
theorem Fg' {a b:Rat} {s x:Rat × Rat} {l:List (Rat × Rat)} {k:Nat} (h:l[k]?=some x):Ho a b (Bf' a b s l k) x=Bf' a b s l (k+1):=by
 unfold Bf'
 rw [List.take_add_one,h]
 simp only [Option.toList_some,List.foldl_append,List.foldl_cons,List.foldl_nil]
structure FollowTo (w:World) (op:Obj) (l:List (Rat × Rat)) (a b:Rat) (s:Rat × Rat) (Bp n k:Nat) (W:World):Prop where
  row:∃ cs,W.heap[Bp]?=some (.cells cs 34 (0,0))∧cs.size=n*6∧∀ (i:Nat) (k:IntKind) (m:Int),cs[i]?≠some (.int k m)
  pts:∀ j,j<k→BR W Bp (j*6) (Bf' a b s l (j+1))
  po:W.heap[w.heap.size]?=some op
  st:AH' W (w.heap.size+1) (Bf' a b s l k)
  be:Below w.heap.size w W
def Gx' (w:World) (a b:Rat) (s:Rat × Rat) (l:List (Rat × Rat)) (n:Nat) (e:Ending) (w':World):Prop :=
  ∃ Bp,e=.returned (.tuple #[.slice (some ⟨Bp,0,none⟩) n n,.int .i64 0])∧(∀ j,j<n→BR w' Bp (j*6) (Bf' a b s l (j+1)))∧Below w.heap.size w w'
theorem FS {w:World} {v vs:Value} {a b r s0 s1:Rat} {pb po c n:Nat} {l:List (Rat × Rat)} (hp:AQ' w v a b r) (hs:Aj w vs s0 s1) (hl:CJ w pb po l) (hg:Bz' a b r) (hn:n=l.length) (hn1:1≤n) (hn2:n≤200) (hz:∀ k,k≤n→Ab' (Bf' a b (s0,s1) l k).1≤8000000∧Ab' (Bf' a b (s0,s1) l k).2≤8000000) (sx:∀ x∈l,Ab' x.1≤1000000∧Ab' x.2≤1000000) (sg:Ab' a≤1000000∧Ab' b≤1000000) :
   Calls Tryz.prog 34 #[v,vs,.slice (some ⟨pb,po,none⟩) n c] w (Gx' w a b (s0,s1) l n):=by
 replace hl:=hid hl
 replace hn:=hid hn
 replace hz:=hid hz
 replace sg:=hid sg
 replace sx:=hid sx
 replace hg:=hid hg
 obtain ⟨C1,j1,C2,j2,C3,j3,C4,j4,C5,j5,C6,j6,rfl,hpg,hpe⟩:=id hp.opened
 replace hp:=hid hp
 replace hpg:=hid hpg
 replace hpe:=hid hpe
 obtain ⟨C7,j7,C8,j8,C9,j9,C10,j10,rfl,-,-⟩:=id hs.opened
 replace hs:=hid hs
 obtain ⟨w1,hw1⟩:=eX (((w.alloc (.cells #[.bool (decide (a.num<0)),.slice C1 (Vx.len a.num.natAbs) j1,.slice C2 (Vx.len (below a.den)) j2,.bool (decide (b.num<0)),.slice C3 (Vx.len b.num.natAbs) j3,.slice C4 (Vx.len (below b.den)) j4,.bool (decide (r.num<0)),.slice C5 (Vx.len r.num.natAbs) j5,.slice C6 (Vx.len (below r.den)) j6] 71)).alloc (.cells #[.bool (decide (s0.num<0)),.slice C7 (Vx.len s0.num.natAbs) j7,.slice C8 (Vx.len (below s0.den)) j8,.bool (decide (s1.num<0)),.slice C9 (Vx.len s1.num.natAbs) j9,.slice C10 (Vx.len (below s1.den)) j10] 34)))
 obtain ⟨b1,g1,g2⟩:=AA' hw1
 replace g1:=hid g1
 replace g2:=hid g2
 replace b1:=hid b1
 go_enter Tryz.func34,Tryz.ntmps34
 go_upto_region 1 with fail
 rw [←hw1]
 clear hw1
 have hg:w1.heap[w.heap.size]?=some (.cells #[.bool (decide (a.num<0)),.slice C1 (Vx.len a.num.natAbs) j1,.slice C2 (Vx.len (below a.den)) j2,.bool (decide (b.num<0)),.slice C3 (Vx.len b.num.natAbs) j3,.slice C4 (Vx.len (below b.den)) j4,.bool (decide (r.num<0)),.slice C5 (Vx.len r.num.natAbs) j5,.slice C6 (Vx.len (below r.den)) j6] 71 (0,0)):=((Below.refl _ w1).block _ (gE.1 g1.out).1).trans g1.out
 have z_p_0:w1.cell? ⟨w.heap.size,0,none⟩=some (.bool (decide (a.num<0))):=cR _ _ _ _ _ _ hg
 have z_p_1:w1.cell? ⟨w.heap.size,1,none⟩=some (.slice C1 (Vx.len a.num.natAbs) j1):=cR _ _ _ _ _ _ hg
 have z_p_2:w1.cell? ⟨w.heap.size,2,none⟩=some (.slice C2 (Vx.len (below a.den)) j2):=cR _ _ _ _ _ _ hg
 have z_p_3:w1.cell? ⟨w.heap.size,3,none⟩=some (.bool (decide (b.num<0))):=cR _ _ _ _ _ _ hg
 have z_p_4:w1.cell? ⟨w.heap.size,4,none⟩=some (.slice C3 (Vx.len b.num.natAbs) j3):=cR _ _ _ _ _ _ hg
 have z_p_5:w1.cell? ⟨w.heap.size,5,none⟩=some (.slice C4 (Vx.len (below b.den)) j4):=cR _ _ _ _ _ _ hg
 have z_p_6:w1.cell? ⟨w.heap.size,6,none⟩=some (.bool (decide (r.num<0))):=cR _ _ _ _ _ _ hg
 have z_p_7:w1.cell? ⟨w.heap.size,7,none⟩=some (.slice C5 (Vx.len r.num.natAbs) j5):=cR _ _ _ _ _ _ hg
 have z_p_8:w1.cell? ⟨w.heap.size,8,none⟩=some (.slice C6 (Vx.len (below r.den)) j6):=cR _ _ _ _ _ _ hg
 clear hg
 have HX:=hid (CW' (n:=n) (k:=0) (hp.out.keep b1.out) hg.out (nT sg.out.1 (by omega)) (nT sg.out.2 (by omega)) hn2 (by omega))
 go_wp2_with fail
 refine (HX.out).mono ?_
 rintro e w2 ⟨rfl,b2⟩
 replace b2:=hid b2
 clear HX
 have y0_2:=hid (bS b1.out b2.out)
 obtain ⟨i0,hi0,hz0,hz1,hz2⟩:=info_parts Fr'
 replace hi0:=hid hi0
 replace hz0:=hid hz0
 replace hz1:=hid hz1
 replace hz2:=hid hz2
 have hsz:=Af' (Ac' g2.out b2.out)
 have hBB:=hid y0_2.out
 have R1:=hid (Ac' g1.out b2.out)
 have R2:=hid (Ac' g2.out b2.out)
 have S2:=hid (hs.out.keep y0_2.out)
 go_wp2_with (at_make;refine wpList_make_full _ rfl _ _ _ rfl w2.heap.size 34 i0 _ 6 Tryz.underlying78 hi0.out hz0.out hz1.out _ _ _ _ n rfl rfl rfl rfl (by rw [hz2.out];omega) (by unfold maxLen;omega) (nL _) ?_;intro v1 hown hgr)
 obtain ⟨Bp,hBp⟩:=eY w2.heap.size
 have hB9:Below w2.heap.size w2 v1:=⟨hgr.os,hgr.tape,hgr.output,hgr.size,fun k hk=>hgr.block k hk (by simp)⟩
 have HR:Hid (FollowTo w (.cells #[.bool (decide (a.num<0)),.slice C1 (Vx.len a.num.natAbs) j1,.slice C2 (Vx.len (below a.den)) j2,.bool (decide (b.num<0)),.slice C3 (Vx.len b.num.natAbs) j3,.slice C4 (Vx.len (below b.den)) j4,.bool (decide (r.num<0)),.slice C5 (Vx.len r.num.natAbs) j5,.slice C6 (Vx.len (below r.den)) j6] 71 (0,0)) l a b (s0,s1) Bp n 0 v1):=by
   obtain ⟨hl9,h0 | ⟨g,cap,cur,hv9,-,hg9,-,-,hcs,htk⟩⟩:=hown
   · have:=h0.2;omega
   · injection hv9 with e1 e2 e3
     injection e1 with e1
     injection e1 with e1
     subst e3
     rw [←hBp,e1]
     refine hid ⟨⟨cur,hg9,hcs,fun i k m h=>?_⟩,fun j hj=>absurd hj (Nat.not_lt_zero _),Ac' R1.out hB9,⟨C7,j7,C8,j8,C9,j9,C10,j10,Ac' R2.out hB9,S2.out.keep hB9⟩,Ae' hBB.out hB9⟩
     have hi9:i<n*6:=by rw [←hcs];exact (gE.1 h).1
     rw [←Array.getElem?_toList] at h
     have h2:(cur.toList.take (n*6))[i]?=some (.int k m):=by rw [List.getElem?_take_of_lt hi9];exact h
     rw [htk,Array.getElem?_toList] at h2
     exact Fs i k m h2
 have hne1:w.heap.size+1<Bp:=by rw [←hBp];exact hsz
 rw [hBp]
 clear hown hgr hB9 hBp R1 R2 S2 hBB b1 b2 g1 g2 hs hsz hi0 hz0 hz1 hz2
 go_wp2_with fail
 go_loopw [24] (fun iv wr=>∃ k:Nat,k≤n∧iv=.int .i64 ((k:Nat):Int)∧Hid (FollowTo w (.cells #[.bool (decide (a.num<0)),.slice C1 (Vx.len a.num.natAbs) j1,.slice C2 (Vx.len (below a.den)) j2,.bool (decide (b.num<0)),.slice C3 (Vx.len b.num.natAbs) j3,.slice C4 (Vx.len (below b.den)) j4,.bool (decide (r.num<0)),.slice C5 (Vx.len r.num.natAbs) j5,.slice C6 (Vx.len (below r.den)) j6] 71 (0,0)) l a b (s0,s1) Bp n k wr)) (fun iv _=>n - (intOf iv).toNat)
 case atStart=>exact ⟨0,Nat.zero_le _,rfl,HR⟩
 case round =>
   obtain ⟨j,hj,rfl,hrel⟩:=hrel
   clear HR
   rcases Nat.lt_or_ge j n with hjn | hjn
   · have hin:decide (j<n)=true:=dT_ hjn
     obtain ⟨x,hx⟩:∃ x,l[j]?=some x:=⟨_,List.getElem?_eq_getElem (by have:=hn.out;omega)⟩
     obtain ⟨s,es⟩:=eY (Bf' a b (s0,s1) l j)
     obtain ⟨y,ey⟩:=eY (Bf' a b (s0,s1) l (j+1))
     have hst:=Fg' (a:=a) (b:=b) (s:=(s0,s1)) hx
     rw [es,ey] at hst
     have h1:cornLo Bt' s.1 s.2 x.1 x.2 a b=y.1:=congrArg Prod.fst hst
     have h2:cornHi Bt' s.1 s.2 x.1 x.2 a b=y.2:=congrArg Prod.snd hst
     have ss:=hz.out j (by omega)
     rw [es] at ss
     have sx2:=sx.out x (List.mem_of_getElem? hx)
     obtain ⟨A1,c1,B1,d1,E1,e1,G1,g1,z0,z1,z2,z3,z4,z5,hxb⟩:=(hl.out.keep hrel.out.be) j x hx
     have hT:=hrel
     obtain ⟨A2,c2,B2,d2,E2,e2,G2,g2,gs,hsb⟩:=hT.out.st
     rw [es] at gs hsb
     replace hxb:=hid hxb
     replace gs:=hid gs
     replace hsb:=hid hsb
     replace h1:=hid h1
     replace h2:=hid h2
     replace es:=hid es
     replace ey:=hid ey
     have hwk:IntKind.i64.wrap (((j:Nat):Int)+1)=((j:Nat):Int)+1:=by
       unfold IntKind.wrap
       simp [IntKind.bits,IntKind.signed]
       omega
     clear hst hx
     go_upto_region 8 with fail
     obtain ⟨w91,hw91⟩:=eX (wr.alloc (.cells #[.bool (decide (x.1.num<0)),.slice A1 (Vx.len x.1.num.natAbs) c1,.slice B1 (Vx.len (below x.1.den)) d1,.bool (decide (x.2.num<0)),.slice E1 (Vx.len x.2.num.natAbs) e1,.slice G1 (Vx.len (below x.2.den)) g1] 34))
     have b91:=hid (Ar hw91)
     have LX:=hid (At' hw91)
     rw [←hw91]
     clear hw91 z0 z1 z2 z3 z4 z5
     have gs9:=hid (Ac' gs.out b91.out)
     have gp9:=hid (Ac' hT.out.po b91.out)
     obtain ⟨x0,x1,x2,x3,x4,x5⟩:=Af LX.out
     obtain ⟨y0,y1,y2,y3,y4,y5⟩:=Af gs9.out
     have p0:w91.cell? ⟨w.heap.size,0,none⟩=some (.bool (decide (a.num<0))):=cR _ _ _ _ _ _ gp9.out
     have p1:w91.cell? ⟨w.heap.size,1,none⟩=some (.slice C1 (Vx.len a.num.natAbs) j1):=cR _ _ _ _ _ _ gp9.out
     have p2:w91.cell? ⟨w.heap.size,2,none⟩=some (.slice C2 (Vx.len (below a.den)) j2):=cR _ _ _ _ _ _ gp9.out
     have p3:w91.cell? ⟨w.heap.size,3,none⟩=some (.bool (decide (b.num<0))):=cR _ _ _ _ _ _ gp9.out
     have p4:w91.cell? ⟨w.heap.size,4,none⟩=some (.slice C3 (Vx.len b.num.natAbs) j3):=cR _ _ _ _ _ _ gp9.out
     have p5:w91.cell? ⟨w.heap.size,5,none⟩=some (.slice C4 (Vx.len (below b.den)) j4):=cR _ _ _ _ _ _ gp9.out
     have p6:w91.cell? ⟨w.heap.size,6,none⟩=some (.bool (decide (r.num<0))):=cR _ _ _ _ _ _ gp9.out
     have p7:w91.cell? ⟨w.heap.size,7,none⟩=some (.slice C5 (Vx.len r.num.natAbs) j5):=cR _ _ _ _ _ _ gp9.out
     have p8:w91.cell? ⟨w.heap.size,8,none⟩=some (.slice C6 (Vx.len (below r.den)) j6):=cR _ _ _ _ _ _ gp9.out
     have HX:=hid (FR (w:=w91) (hp.out.keep (bS hT.out.be b91.out)) (hsb.out.keep b91.out) (hxb.out.keep b91.out) ss sx2 sg.out h1.out h2.out)
     go_wp2_with fail
     refine (HX.out).mono ?_
     rintro e w92 ⟨v92,rfl,hv92,b92⟩
     obtain ⟨A3,c3,B3,d3,E3,e3,G3,g3,rfl,-,-⟩:=id hv92.opened
     replace hv92:=hid hv92
     replace b92:=hid b92
     clear HX x0 x1 x2 x3 x4 x5 y0 y1 y2 y3 y4 y5 p0 p1 p2 p3 p4 p5 p6 p7 p8
     have gs8:=Ac' gs9.out b92.out
     obtain ⟨q0,q1,q2,q3,q4,q5⟩:=Af gs8
     have F0:=fR w92 (w.heap.size+1) 0 _ _ gs8
     have F1:=fR w92 (w.heap.size+1) 1 _ _ gs8
     have F2:=fR w92 (w.heap.size+1) 2 _ _ gs8
     have F3:=fR w92 (w.heap.size+1) 3 _ _ gs8
     have F4:=fR w92 (w.heap.size+1) 4 _ _ gs8
     have F5:=fR w92 (w.heap.size+1) 5 _ _ gs8
     obtain ⟨u3,hw⟩:=eX (((((((w92.setCell ⟨(w.heap.size+1),0,none⟩ (.bool (decide (y.1.num<0)))).setCell ⟨(w.heap.size+1),1,none⟩ (.slice A3 (Vx.len y.1.num.natAbs) c3)).setCell ⟨(w.heap.size+1),2,none⟩ (.slice B3 (Vx.len (below y.1.den)) d3)).setCell ⟨(w.heap.size+1),3,none⟩ (.bool (decide (y.2.num<0)))).setCell ⟨(w.heap.size+1),4,none⟩ (.slice E3 (Vx.len y.2.num.natAbs) e3)).setCell ⟨(w.heap.size+1),5,none⟩ (.slice G3 (Vx.len (below y.2.den)) g3)))
     obtain ⟨ES,OT,LV,BL⟩:=Av gs8 hw
     have kb:=bS b91.out b92.out
     obtain ⟨cs,hrow,hcs,hni⟩:=hT.out.row
     have hrow3:=OT Bp _ (by omega) (Ac' hrow kb)
     have hpo3:=hid (OT _ _ (by omega) (Ac' hT.out.po kb))
     have hbe3:=hid (BL _ _ (by omega) (bS hT.out.be kb))
     have hbox3:=hid (LV.box hv92.out)
     have hpts3:Hid (∀ t,t<j→BR u3 Bp (t*6) (Bf' a b (s0,s1) l (t+1))):=hid (fun t ht=>by
       obtain ⟨A4,c4,B4,d4,E4,e4,G4,g4,z0,z1,z2,z3,z4,z5,hx9⟩:=(hT.out.pts t ht).keep kb
       have e:=hrow3.trans (Ac' hrow kb).symm
       exact ⟨A4,c4,B4,d4,E4,e4,G4,g4,(World.cell?_of_block e).trans z0,(World.cell?_of_block e).trans z1,(World.cell?_of_block e).trans z2,(World.cell?_of_block e).trans z3,(World.cell?_of_block e).trans z4,(World.cell?_of_block e).trans z5,LV.box hx9⟩)
     replace ES:=hid ES
     go_upto_region 9 with fail
     rw [←hw]
     clear hw q0 q1 q2 q3 q4 q5 F0 F1 F2 F3 F4 F5 gs8 gs9 gp9 OT LV BL kb hrow hT hrel b91 b92 hv92 gs hsb hxb LX
     obtain ⟨x0,x1,x2,x3,x4,x5⟩:=Af ES.out
     obtain ⟨u,hu⟩:=eY (j*6)
     have hu5:u+5<cs.size:=by omega
     obtain ⟨q0,eq0⟩:∃ z,cs[u+0]?=some z:=⟨cs[u+0],by simp⟩
     have f0:=fR u3 Bp (u+0) _ _ hrow3
     have k0:u3.cell? ⟨Bp,u+0,none⟩=some q0:=(cR _ _ _ _ _ _ hrow3).trans eq0
     obtain ⟨q1,eq1⟩:∃ z,cs[u+1]?=some z:=⟨cs[u+1],by simp⟩
     have f1:=fR u3 Bp (u+1) _ _ hrow3
     have k1:u3.cell? ⟨Bp,u+1,none⟩=some q1:=(cR _ _ _ _ _ _ hrow3).trans eq1
     obtain ⟨q2,eq2⟩:∃ z,cs[u+2]?=some z:=⟨cs[u+2],by simp⟩
     have f2:=fR u3 Bp (u+2) _ _ hrow3
     have k2:u3.cell? ⟨Bp,u+2,none⟩=some q2:=(cR _ _ _ _ _ _ hrow3).trans eq2
     obtain ⟨q3,eq3⟩:∃ z,cs[u+3]?=some z:=⟨cs[u+3],by simp⟩
     have f3:=fR u3 Bp (u+3) _ _ hrow3
     have k3:u3.cell? ⟨Bp,u+3,none⟩=some q3:=(cR _ _ _ _ _ _ hrow3).trans eq3
     obtain ⟨q4,eq4⟩:∃ z,cs[u+4]?=some z:=⟨cs[u+4],by simp⟩
     have f4:=fR u3 Bp (u+4) _ _ hrow3
     have k4:u3.cell? ⟨Bp,u+4,none⟩=some q4:=(cR _ _ _ _ _ _ hrow3).trans eq4
     obtain ⟨q5,eq5⟩:∃ z,cs[u+5]?=some z:=⟨cs[u+5],by simp⟩
     have f5:=fR u3 Bp (u+5) _ _ hrow3
     have k5:u3.cell? ⟨Bp,u+5,none⟩=some q5:=(cR _ _ _ _ _ _ hrow3).trans eq5
     rw [Nat.add_zero] at k0 f0
     obtain ⟨ue,hw⟩:=eX (((((((u3.setCell ⟨Bp,u,none⟩ (.bool (decide (y.1.num<0)))).setCell ⟨Bp,u+1,none⟩ (.slice A3 (Vx.len y.1.num.natAbs) c3)).setCell ⟨Bp,u+2,none⟩ (.slice B3 (Vx.len (below y.1.den)) d3)).setCell ⟨Bp,u+3,none⟩ (.bool (decide (y.2.num<0)))).setCell ⟨Bp,u+4,none⟩ (.slice E3 (Vx.len y.2.num.natAbs) e3)).setCell ⟨Bp,u+5,none⟩ (.slice G3 (Vx.len (below y.2.den)) g3)))
     obtain ⟨cs',hr3,hsz,hold,⟨n0,n1,n2,n3,n4,n5⟩,OT,hs9,BL⟩:=Eo' hrow3 hu5 hw
     have hle:u3.heap.size≤ue.heap.size:=Nat.le_of_eq hs9.symm
     have FIN:Hid (FollowTo w (.cells #[.bool (decide (a.num<0)),.slice C1 (Vx.len a.num.natAbs) j1,.slice C2 (Vx.len (below a.den)) j2,.bool (decide (b.num<0)),.slice C3 (Vx.len b.num.natAbs) j3,.slice C4 (Vx.len (below b.den)) j4,.bool (decide (r.num<0)),.slice C5 (Vx.len r.num.natAbs) j5,.slice C6 (Vx.len (below r.den)) j6] 71 (0,0)) l a b (s0,s1) Bp n (j+1) ue):=by
       refine hid ⟨⟨cs',hr3,by rw [hsz,hcs],fun i k m h=>?_⟩,fun t ht=>?_,OT _ _ (by omega) hpo3.out,⟨A3,c3,B3,d3,E3,e3,G3,g3,?_,?_⟩,BL _ _ (by omega) hbe3.out⟩
       · rcases Decidable.em (i<u∨u+5<i) with h9 | h9
         · rw [hold i h9] at h;exact hni i k m h
         · have h8:i=u∨i=u+1∨i=u+2∨i=u+3∨i=u+4∨i=u+5:=by omega
           rcases h8 with rfl | rfl | rfl | rfl | rfl | rfl
           · rw [n0] at h;simp at h
           · rw [n1] at h;simp at h
           · rw [n2] at h;simp at h
           · rw [n3] at h;simp at h
           · rw [n4] at h;simp at h
           · rw [n5] at h;simp at h
       · rcases Nat.lt_or_ge t j with h9 | h9
         · obtain ⟨A5,c5,B5,d5,E5,e5,G5,g5,z0,z1,z2,z3,z4,z5,hx⟩:=hpts3.out t h9
           rw [cR _ _ _ _ _ _ hrow3] at z0 z1 z2 z3 z4 z5
           exact ⟨A5,c5,B5,d5,E5,e5,G5,g5,(cR _ _ _ _ _ _ hr3).trans ((hold _ (by omega)).trans z0),(cR _ _ _ _ _ _ hr3).trans ((hold _ (by omega)).trans z1),(cR _ _ _ _ _ _ hr3).trans ((hold _ (by omega)).trans z2),(cR _ _ _ _ _ _ hr3).trans ((hold _ (by omega)).trans z3),(cR _ _ _ _ _ _ hr3).trans ((hold _ (by omega)).trans z4),(cR _ _ _ _ _ _ hr3).trans ((hold _ (by omega)).trans z5),Co hle hrow3 hni OT hx⟩
         · obtain rfl:t=j:=by omega
           rw [hu,ey.out]
           exact ⟨A3,c3,B3,d3,E3,e3,G3,g3,(cR _ _ _ _ _ _ hr3).trans n0,(cR _ _ _ _ _ _ hr3).trans n1,(cR _ _ _ _ _ _ hr3).trans n2,(cR _ _ _ _ _ _ hr3).trans n3,(cR _ _ _ _ _ _ hr3).trans n4,(cR _ _ _ _ _ _ hr3).trans n5,Co hle hrow3 hni OT hbox3.out⟩
       · rw [ey.out];exact OT _ _ (by omega) ES.out
       · rw [ey.out];exact Co hle hrow3 hni OT hbox3.out
     clear hrow3 hr3 hsz hold n0 n1 n2 n3 n4 n5 OT hs9 BL hle hni hpo3 hbe3 hbox3 hpts3 eq0 eq1 eq2 eq3 eq4 eq5 hcs hu5 ES
     replace hw:=hid hw
     go_wp2_with fail
     rw [←hw.out]
     clear hw k0 k1 k2 k3 k4 k5 f0 f1 f2 f3 f4 f5 x0 x1 x2 x3 x4 x5
     go_roundw
     case rel=>exact ⟨j+1,hjn,by go_num,FIN⟩
     case measure=>simp [intOf];omega
   · obtain rfl:j=n:=Nat.le_antisymm hj hjn
     have hin:decide (j<j)=false:=dF_ (Nat.lt_irrefl _)
     have HP:=hid hrel.out.pts
     have HB:=hid hrel.out.be
     clear hrel
     go_wp2_with fail
     go_ret2
     exact ⟨Bp,rfl,HP.out,HB.out⟩
theorem Aa' {w w':World} {B b o:Nat} (OT:∀ (n:Nat) (x:Obj),n≠B→w.heap[n]?=some x→w'.heap[n]?=some x) (hne:b≠B) (hlt:b<w.heap.size):w'.cell? ⟨b,o,none⟩=w.cell? ⟨b,o,none⟩:=by
 have h:=Array.getElem?_eq_getElem hlt
 exact World.cell?_of_block ((OT b _ hne h).trans h.symm)
theorem BA {w:World} {v:Value} {a b r x y lo hi:Rat} {rb ro c:Nat} (hp:AQ' w v a b r) (hl:AX w rb ro [x,y]) (hg:Bz' a b r) (sx:Ab' x≤1000000) (sy:Ab' y≤1000000) (sr:Ab' r≤1000000∧0≤r) (sg:Ab' a≤1000000∧Ab' b≤1000000) (el:cornLo Bf (x - r) (x+r) (y - r) (y+r) a b=lo) (eh:cornHi Bf (x - r) (x+r) (y - r) (y+r) a b=hi) :
   Calls Tryz.prog 36 #[v,.slice (some ⟨rb,ro,none⟩) 2 c] w (Bw' w lo hi 0):=by
 obtain ⟨A1,c1,B1,d1,e0,e1,e2,hx⟩:=hl.at (i:=0) rfl
 obtain ⟨A2,c2,B2,d2,f0,f1,f2,hy⟩:=hl.at (i:=1) rfl
 simp only [Nat.zero_mul,Nat.one_mul,Nat.add_zero] at e0 e1 e2 f0 f1 f2
 have hrb:=bL w _ e0
 replace hl:=hid hl
 replace hg:=hid hg
 replace hx:=hid hx
 replace hy:=hid hy
 replace el:=hid el
 replace eh:=hid eh
 replace sx:=hid sx
 replace sy:=hid sy
 replace sr:=hid sr
 replace sg:=hid sg
 obtain ⟨C1,j1,C2,j2,C3,j3,C4,j4,C5,j5,C6,j6,rfl,hpg,hpe⟩:=id hp.opened
 replace hp:=hid hp
 replace hpg:=hid hpg
 replace hpe:=hid hpe
 obtain ⟨w1,hw1⟩:=eX (((w.alloc (.cells #[.bool (decide (a.num<0)),.slice C1 (Vx.len a.num.natAbs) j1,.slice C2 (Vx.len (below a.den)) j2,.bool (decide (b.num<0)),.slice C3 (Vx.len b.num.natAbs) j3,.slice C4 (Vx.len (below b.den)) j4,.bool (decide (r.num<0)),.slice C5 (Vx.len r.num.natAbs) j5,.slice C6 (Vx.len (below r.den)) j6] 71)).alloc (.cells #[.bool false,.slice none 0 0,.slice none 0 0,.bool false,.slice none 0 0,.slice none 0 0] 34)))
 obtain ⟨b1,g1,g2⟩:=AA' hw1
 replace g1:=hid g1
 replace g2:=hid g2
 replace b1:=hid b1
 go_enter Tryz.func36,Tryz.ntmps36
 go_upto_region 1 with fail
 rw [←hw1]
 clear hw1
 have hg:w1.heap[w.heap.size]?=some (.cells #[.bool (decide (a.num<0)),.slice C1 (Vx.len a.num.natAbs) j1,.slice C2 (Vx.len (below a.den)) j2,.bool (decide (b.num<0)),.slice C3 (Vx.len b.num.natAbs) j3,.slice C4 (Vx.len (below b.den)) j4,.bool (decide (r.num<0)),.slice C5 (Vx.len r.num.natAbs) j5,.slice C6 (Vx.len (below r.den)) j6] 71 (0,0)):=((Below.refl _ w1).block _ (gE.1 g1.out).1).trans g1.out
 have z_p_0:w1.cell? ⟨w.heap.size,0,none⟩=some (.bool (decide (a.num<0))):=cR _ _ _ _ _ _ hg
 have z_p_1:w1.cell? ⟨w.heap.size,1,none⟩=some (.slice C1 (Vx.len a.num.natAbs) j1):=cR _ _ _ _ _ _ hg
 have z_p_2:w1.cell? ⟨w.heap.size,2,none⟩=some (.slice C2 (Vx.len (below a.den)) j2):=cR _ _ _ _ _ _ hg
 have z_p_3:w1.cell? ⟨w.heap.size,3,none⟩=some (.bool (decide (b.num<0))):=cR _ _ _ _ _ _ hg
 have z_p_4:w1.cell? ⟨w.heap.size,4,none⟩=some (.slice C3 (Vx.len b.num.natAbs) j3):=cR _ _ _ _ _ _ hg
 have z_p_5:w1.cell? ⟨w.heap.size,5,none⟩=some (.slice C4 (Vx.len (below b.den)) j4):=cR _ _ _ _ _ _ hg
 have z_p_6:w1.cell? ⟨w.heap.size,6,none⟩=some (.bool (decide (r.num<0))):=cR _ _ _ _ _ _ hg
 have z_p_7:w1.cell? ⟨w.heap.size,7,none⟩=some (.slice C5 (Vx.len r.num.natAbs) j5):=cR _ _ _ _ _ _ hg
 have z_p_8:w1.cell? ⟨w.heap.size,8,none⟩=some (.slice C6 (Vx.len (below r.den)) j6):=cR _ _ _ _ _ _ hg
 clear hg
 have HX:=hid (CW' (n:=2) (k:=2) (hp.out.keep b1.out) hg.out (nT sg.out.1 (by omega)) (nT sg.out.2 (by omega)) (by omega) (by omega))
 go_wp2_with fail
 refine (HX.out).mono ?_
 rintro e w2 ⟨rfl,b2⟩
 replace b2:=hid b2
 clear HX
 have hg:w2.heap[w.heap.size]?=some (.cells #[.bool (decide (a.num<0)),.slice C1 (Vx.len a.num.natAbs) j1,.slice C2 (Vx.len (below a.den)) j2,.bool (decide (b.num<0)),.slice C3 (Vx.len b.num.natAbs) j3,.slice C4 (Vx.len (below b.den)) j4,.bool (decide (r.num<0)),.slice C5 (Vx.len r.num.natAbs) j5,.slice C6 (Vx.len (below r.den)) j6] 71 (0,0)):=(b2.out.block _ (gE.1 g1.out).1).trans g1.out
 have z_p_0:w2.cell? ⟨w.heap.size,0,none⟩=some (.bool (decide (a.num<0))):=cR _ _ _ _ _ _ hg
 have z_p_1:w2.cell? ⟨w.heap.size,1,none⟩=some (.slice C1 (Vx.len a.num.natAbs) j1):=cR _ _ _ _ _ _ hg
 have z_p_2:w2.cell? ⟨w.heap.size,2,none⟩=some (.slice C2 (Vx.len (below a.den)) j2):=cR _ _ _ _ _ _ hg
 have z_p_3:w2.cell? ⟨w.heap.size,3,none⟩=some (.bool (decide (b.num<0))):=cR _ _ _ _ _ _ hg
 have z_p_4:w2.cell? ⟨w.heap.size,4,none⟩=some (.slice C3 (Vx.len b.num.natAbs) j3):=cR _ _ _ _ _ _ hg
 have z_p_5:w2.cell? ⟨w.heap.size,5,none⟩=some (.slice C4 (Vx.len (below b.den)) j4):=cR _ _ _ _ _ _ hg
 have z_p_6:w2.cell? ⟨w.heap.size,6,none⟩=some (.bool (decide (r.num<0))):=cR _ _ _ _ _ _ hg
 have z_p_7:w2.cell? ⟨w.heap.size,7,none⟩=some (.slice C5 (Vx.len r.num.natAbs) j5):=cR _ _ _ _ _ _ hg
 have z_p_8:w2.cell? ⟨w.heap.size,8,none⟩=some (.slice C6 (Vx.len (below r.den)) j6):=cR _ _ _ _ _ _ hg
 clear hg
 go_upto_region 4 with fail
 have y0_2:=hid (bS b1.out b2.out)
 have x0:w2.cell? ⟨rb,ro,none⟩=some (.bool (decide (x.num<0))):=(y0_2.out.cell (p:=⟨rb,ro,none⟩) hrb).trans e0
 have x1:w2.cell? ⟨rb,ro+1,none⟩=some (.slice A1 (Vx.len x.num.natAbs) c1):=(y0_2.out.cell (p:=⟨rb,ro+1,none⟩) hrb).trans e1
 have x2:w2.cell? ⟨rb,ro+2,none⟩=some (.slice B1 (Vx.len (below x.den)) d1):=(y0_2.out.cell (p:=⟨rb,ro+2,none⟩) hrb).trans e2
 have y0:w2.cell? ⟨rb,ro+3,none⟩=some (.bool (decide (y.num<0))):=(y0_2.out.cell (p:=⟨rb,ro+3,none⟩) hrb).trans f0
 have y1:w2.cell? ⟨rb,ro+3+1,none⟩=some (.slice A2 (Vx.len y.num.natAbs) c2):=(y0_2.out.cell (p:=⟨rb,ro+3+1,none⟩) hrb).trans f1
 have y2:w2.cell? ⟨rb,ro+3+2,none⟩=some (.slice B2 (Vx.len (below y.den)) d2):=(y0_2.out.cell (p:=⟨rb,ro+3+2,none⟩) hrb).trans f2
 have hrb2:rb<w2.heap.size:=ltl hrb y0_2.out.size
 have hpb:w.heap.size<w2.heap.size:=Af' (Ac' g1.out b2.out)
 go_wp2_with fail
 refine wp_region_held_drew (S:=(fun w'=>(w'.cell? ⟨w.heap.size,0,none⟩=w2.cell? ⟨w.heap.size,0,none⟩∧w'.cell? ⟨w.heap.size,1,none⟩=w2.cell? ⟨w.heap.size,1,none⟩∧w'.cell? ⟨w.heap.size,2,none⟩=w2.cell? ⟨w.heap.size,2,none⟩∧w'.cell? ⟨w.heap.size,3,none⟩=w2.cell? ⟨w.heap.size,3,none⟩∧w'.cell? ⟨w.heap.size,4,none⟩=w2.cell? ⟨w.heap.size,4,none⟩∧w'.cell? ⟨w.heap.size,5,none⟩=w2.cell? ⟨w.heap.size,5,none⟩∧w'.cell? ⟨w.heap.size,6,none⟩=w2.cell? ⟨w.heap.size,6,none⟩∧w'.cell? ⟨w.heap.size,7,none⟩=w2.cell? ⟨w.heap.size,7,none⟩∧w'.cell? ⟨w.heap.size,8,none⟩=w2.cell? ⟨w.heap.size,8,none⟩∧w'.cell? ⟨rb,ro,none⟩=w2.cell? ⟨rb,ro,none⟩∧w'.cell? ⟨rb,ro+1,none⟩=w2.cell? ⟨rb,ro+1,none⟩∧w'.cell? ⟨rb,ro+2,none⟩=w2.cell? ⟨rb,ro+2,none⟩∧w'.cell? ⟨rb,ro+3,none⟩=w2.cell? ⟨rb,ro+3,none⟩∧w'.cell? ⟨rb,ro+3+1,none⟩=w2.cell? ⟨rb,ro+3+1,none⟩∧w'.cell? ⟨rb,ro+3+2,none⟩=w2.cell? ⟨rb,ro+3+2,none⟩))) (by kernel_rfl) ?_ (fun hHeld=>?_)
 · (try dsimp only)
   exact ⟨rfl,rfl,rfl,rfl,rfl,rfl,rfl,rfl,rfl,rfl,rfl,rfl,rfl,rfl,rfl⟩
 obtain ⟨w3,hw3⟩:=eX w2.drew
 have b3:Hid (Below w2.heap.size w2 w3):=hid (by rw [hw3];exact ⟨rfl,rfl,rfl,nL _,fun _ _=>rfl⟩)
 rw [←hw3] at hHeld ⊢
 clear hw3
 have y0_3:=hid (bS y0_2.out b3.out)
 have lbW:w.heap.size≤w3.heap.size:=y0_3.out.size
 have lbS:w2.heap.size≤w3.heap.size:=b3.out.size
 have y1_3:=hid (bS b2.out b3.out)
 have lc_R:w.heap.size+1<w3.heap.size:=Af' (Ac' g2.out y1_3.out)
 refine tk (i:=0) (h:=?_)
 try simp only [Act.put,lt,ly,lu]
 refine tk (i:=1) (h:=?_)
 try simp only [Act.put,lt,ly,lu]
 refine tk (i:=2) (h:=?_)
 try simp only [Act.put,lt,ly,lu]
 refine tk (i:=3) (h:=?_)
 try simp only [Act.put,lt,ly,lu]
 refine tk (i:=4) (h:=?_)
 try simp only [Act.put,lt,ly,lu]
 refine tk (i:=5) (h:=?_)
 try simp only [Act.put,lt,ly,lu]
 refine tk (i:=6) (h:=?_)
 try simp only [Act.put,lt,ly,lu]
 refine wpAnyH_ready (rs:=[7,8]) (by kernel_rfl) (by simp) (AllReadyH.cons (o:=?o7q1) ?e7q1 ?k7q1 (AllReadyH.cons (o:=?o8q1) ?e8q1 ?k8q1 AllReadyH.nil))
 case e7q1=>simp only [lg,lz,ls] <;> rfl
 case e8q1=>simp only [lg,lz,ls] <;> rfl
 case k7q1 =>
   intro K hK
   go_simp;go_at_call 63
   refine (EU (hp.out.keep y0_3.out) (hx.out.keep y0_3.out) (hy.out.keep y0_3.out) sx.out sy.out sr.out.1 sg.out sr.out.2 el.out eh.out).mono ?_
   rintro e w4 ⟨v4,rfl,hv4,b4⟩
   obtain ⟨C7,j7,C8,j8,C9,j9,C10,j10,rfl,-,-,-,-⟩:=id hv4.opened
   replace hv4:=hid hv4
   replace b4:=hid b4
   have y2_4:=hid (bS b3.out b4.out)
   have hS:=y2_4.out
   clear hHeld
   refine hK.out _ _ ?_ (fun hHeld=>?_)
   · (try dsimp only)
     exact ⟨hS.cell (p:=⟨w.heap.size,0,none⟩) hpb,hS.cell (p:=⟨w.heap.size,1,none⟩) hpb,hS.cell (p:=⟨w.heap.size,2,none⟩) hpb,hS.cell (p:=⟨w.heap.size,3,none⟩) hpb,hS.cell (p:=⟨w.heap.size,4,none⟩) hpb,hS.cell (p:=⟨w.heap.size,5,none⟩) hpb,hS.cell (p:=⟨w.heap.size,6,none⟩) hpb,hS.cell (p:=⟨w.heap.size,7,none⟩) hpb,hS.cell (p:=⟨w.heap.size,8,none⟩) hpb,hS.cell (p:=⟨rb,ro,none⟩) hrb2,hS.cell (p:=⟨rb,ro+1,none⟩) hrb2,hS.cell (p:=⟨rb,ro+2,none⟩) hrb2,hS.cell (p:=⟨rb,ro+3,none⟩) hrb2,hS.cell (p:=⟨rb,ro+3+1,none⟩) hrb2,hS.cell (p:=⟨rb,ro+3+2,none⟩) hrb2⟩
   clear hK K hS;try simp only [Act.put,lt,ly,lu]
   refine rd (i:=8) (h:=fun K hK=>?_)
   have lb_all:w3.heap.size≤w4.heap.size:=b4.out.size
   go_simp
   obtain ⟨w5,hw5⟩:=eX (w4.alloc (.cells #[.bool false,.slice none 0 0,.slice none 0 0,.bool false,.slice none 0 0,.slice none 0 0] 34))
   have b5:=hid (Ar hw5)
   have L5:=hid (At' hw5)
   rw [←hw5]
   clear hw5
   have y2_5:=hid (bS y2_4.out b5.out)
   have hS:=y2_5.out
   clear hHeld
   refine hK.out _ _ ?_ (fun hHeld=>?_)
   · (try dsimp only)
     exact ⟨hS.cell (p:=⟨w.heap.size,0,none⟩) hpb,hS.cell (p:=⟨w.heap.size,1,none⟩) hpb,hS.cell (p:=⟨w.heap.size,2,none⟩) hpb,hS.cell (p:=⟨w.heap.size,3,none⟩) hpb,hS.cell (p:=⟨w.heap.size,4,none⟩) hpb,hS.cell (p:=⟨w.heap.size,5,none⟩) hpb,hS.cell (p:=⟨w.heap.size,6,none⟩) hpb,hS.cell (p:=⟨w.heap.size,7,none⟩) hpb,hS.cell (p:=⟨w.heap.size,8,none⟩) hpb,hS.cell (p:=⟨rb,ro,none⟩) hrb2,hS.cell (p:=⟨rb,ro+1,none⟩) hrb2,hS.cell (p:=⟨rb,ro+2,none⟩) hrb2,hS.cell (p:=⟨rb,ro+3,none⟩) hrb2,hS.cell (p:=⟨rb,ro+3+1,none⟩) hrb2,hS.cell (p:=⟨rb,ro+3+2,none⟩) hrb2⟩
   clear hK K hS;try simp only [Act.put,lt,ly,lu]
   refine rd (i:=9) (h:=fun K hK=>?_)
   have DBq4:=Ac' L5.out (Below.refl _ w5)
   have q0:w5.cell? ⟨w4.heap.size,0,none⟩=some (.bool false):=cR _ _ _ _ _ _ DBq4
   have F0:w5.frozen? ⟨w4.heap.size,0,none⟩=false:=fR w5 (w4.heap.size) 0 _ _ DBq4
   have q1:w5.cell? ⟨w4.heap.size,1,none⟩=some (.slice none 0 0):=cR _ _ _ _ _ _ DBq4
   have F1:w5.frozen? ⟨w4.heap.size,1,none⟩=false:=fR w5 (w4.heap.size) 1 _ _ DBq4
   have q2:w5.cell? ⟨w4.heap.size,2,none⟩=some (.slice none 0 0):=cR _ _ _ _ _ _ DBq4
   have F2:w5.frozen? ⟨w4.heap.size,2,none⟩=false:=fR w5 (w4.heap.size) 2 _ _ DBq4
   have q3:w5.cell? ⟨w4.heap.size,3,none⟩=some (.bool false):=cR _ _ _ _ _ _ DBq4
   have F3:w5.frozen? ⟨w4.heap.size,3,none⟩=false:=fR w5 (w4.heap.size) 3 _ _ DBq4
   have q4:w5.cell? ⟨w4.heap.size,4,none⟩=some (.slice none 0 0):=cR _ _ _ _ _ _ DBq4
   have F4:w5.frozen? ⟨w4.heap.size,4,none⟩=false:=fR w5 (w4.heap.size) 4 _ _ DBq4
   have q5:w5.cell? ⟨w4.heap.size,5,none⟩=some (.slice none 0 0):=cR _ _ _ _ _ _ DBq4
   have F5:w5.frozen? ⟨w4.heap.size,5,none⟩=false:=fR w5 (w4.heap.size) 5 _ _ DBq4
   have y0_5:=hid (bS (bS y0_3.out b4.out) b5.out)
   have y1_5:=hid (bS (bS y1_3.out b4.out) b5.out)
   have hS:=y2_5.out
   have hz6:w2.heap.size≤w5.heap.size:=hS.size
   go_simp
   clear q0 F0 q1 F1 q2 F2 q3 F3 q4 F4 q5 F5
   have FV:=hid (hv4.out.keep b5.out)
   have FB:=hid y0_5.out
   obtain ⟨w6,hw⟩:=eX (((((((w5.setCell ⟨w4.heap.size,0,none⟩ (.bool (decide (lo.num<0)))).setCell ⟨w4.heap.size,1,none⟩ (.slice C7 (Vx.len lo.num.natAbs) j7)).setCell ⟨w4.heap.size,2,none⟩ (.slice C8 (Vx.len (below lo.den)) j8)).setCell ⟨w4.heap.size,3,none⟩ (.bool (decide (hi.num<0)))).setCell ⟨w4.heap.size,4,none⟩ (.slice C9 (Vx.len hi.num.natAbs) j9)).setCell ⟨w4.heap.size,5,none⟩ (.slice C10 (Vx.len (below hi.den)) j10)))
   have hse6:w6.heap.size=w5.heap.size:=by rw [hw];simp
   obtain ⟨E,OT,LV,BL⟩:=Av DBq4 hw
   rw [←hw]
   clear hw
   have L6:=hid E
   have FB6:=hid (BL _ _ (by omega) FB.out)
   have HS6:=hid (BL _ _ (show w2.heap.size≤w4.heap.size by omega) hS)
   have LKR6:=hid (OT _ _ (by omega) (Ac' g2.out y1_5.out))
   have KVo6:=hid (LV.box (hv4.out.keep b5.out))
   have s0_6:w6.cell? ⟨w.heap.size,0,none⟩=w2.cell? ⟨w.heap.size,0,none⟩:=(Aa' OT (by omega) (ltl hpb hz6)).trans (hS.cell (p:=⟨w.heap.size,0,none⟩) hpb)
   have s1_6:w6.cell? ⟨w.heap.size,1,none⟩=w2.cell? ⟨w.heap.size,1,none⟩:=(Aa' OT (by omega) (ltl hpb hz6)).trans (hS.cell (p:=⟨w.heap.size,1,none⟩) hpb)
   have s2_6:w6.cell? ⟨w.heap.size,2,none⟩=w2.cell? ⟨w.heap.size,2,none⟩:=(Aa' OT (by omega) (ltl hpb hz6)).trans (hS.cell (p:=⟨w.heap.size,2,none⟩) hpb)
   have s3_6:w6.cell? ⟨w.heap.size,3,none⟩=w2.cell? ⟨w.heap.size,3,none⟩:=(Aa' OT (by omega) (ltl hpb hz6)).trans (hS.cell (p:=⟨w.heap.size,3,none⟩) hpb)
   have s4_6:w6.cell? ⟨w.heap.size,4,none⟩=w2.cell? ⟨w.heap.size,4,none⟩:=(Aa' OT (by omega) (ltl hpb hz6)).trans (hS.cell (p:=⟨w.heap.size,4,none⟩) hpb)
   have s5_6:w6.cell? ⟨w.heap.size,5,none⟩=w2.cell? ⟨w.heap.size,5,none⟩:=(Aa' OT (by omega) (ltl hpb hz6)).trans (hS.cell (p:=⟨w.heap.size,5,none⟩) hpb)
   have s6_6:w6.cell? ⟨w.heap.size,6,none⟩=w2.cell? ⟨w.heap.size,6,none⟩:=(Aa' OT (by omega) (ltl hpb hz6)).trans (hS.cell (p:=⟨w.heap.size,6,none⟩) hpb)
   have s7_6:w6.cell? ⟨w.heap.size,7,none⟩=w2.cell? ⟨w.heap.size,7,none⟩:=(Aa' OT (by omega) (ltl hpb hz6)).trans (hS.cell (p:=⟨w.heap.size,7,none⟩) hpb)
   have s8_6:w6.cell? ⟨w.heap.size,8,none⟩=w2.cell? ⟨w.heap.size,8,none⟩:=(Aa' OT (by omega) (ltl hpb hz6)).trans (hS.cell (p:=⟨w.heap.size,8,none⟩) hpb)
   have s9_6:w6.cell? ⟨rb,ro,none⟩=w2.cell? ⟨rb,ro,none⟩:=(Aa' OT (by omega) (ltl hrb2 hz6)).trans (hS.cell (p:=⟨rb,ro,none⟩) hrb2)
   have s10_6:w6.cell? ⟨rb,ro+1,none⟩=w2.cell? ⟨rb,ro+1,none⟩:=(Aa' OT (by omega) (ltl hrb2 hz6)).trans (hS.cell (p:=⟨rb,ro+1,none⟩) hrb2)
   have s11_6:w6.cell? ⟨rb,ro+2,none⟩=w2.cell? ⟨rb,ro+2,none⟩:=(Aa' OT (by omega) (ltl hrb2 hz6)).trans (hS.cell (p:=⟨rb,ro+2,none⟩) hrb2)
   have s12_6:w6.cell? ⟨rb,ro+3,none⟩=w2.cell? ⟨rb,ro+3,none⟩:=(Aa' OT (by omega) (ltl hrb2 hz6)).trans (hS.cell (p:=⟨rb,ro+3,none⟩) hrb2)
   have s13_6:w6.cell? ⟨rb,ro+3+1,none⟩=w2.cell? ⟨rb,ro+3+1,none⟩:=(Aa' OT (by omega) (ltl hrb2 hz6)).trans (hS.cell (p:=⟨rb,ro+3+1,none⟩) hrb2)
   have s14_6:w6.cell? ⟨rb,ro+3+2,none⟩=w2.cell? ⟨rb,ro+3+2,none⟩:=(Aa' OT (by omega) (ltl hrb2 hz6)).trans (hS.cell (p:=⟨rb,ro+3+2,none⟩) hrb2)
   refine hK.out _ _ ?_ (fun hHeld2=>?_)
   · (try dsimp only)
     exact ⟨s0_6,s1_6,s2_6,s3_6,s4_6,s5_6,s6_6,s7_6,s8_6,s9_6,s10_6,s11_6,s12_6,s13_6,s14_6⟩
   clear hK K hHeld hS OT LV BL FV FB E DBq4 s0_6 s1_6 s2_6 s3_6 s4_6 s5_6 s6_6 s7_6 s8_6 s9_6 s10_6 s11_6 s12_6 s13_6 s14_6
   try simp only [Act.put,lt,ly,lu]
   have hHeld:=hHeld2
   clear hHeld2
   refine wpAnyH_done (by kernel_rfl) ?_ _
   clear hHeld
   go_wp2_with fail
   go_loopw [8] (fun iv wr=>iv=.int .i64 2∧wr=w6) (fun _ _=>0)
   case atStart=>exact ⟨rfl,rfl⟩
   case round =>
     obtain ⟨rfl,hwr⟩:=hrel
     rw [hwr]
     clear hwr
     obtain ⟨z_all_0,z_all_1,z_all_2,z_all_3,z_all_4,z_all_5⟩:=Af L6.out
     have DR:=LKR6.out
     have q0:w6.cell? ⟨w.heap.size+1,0,none⟩=some (.bool false):=cR _ _ _ _ _ _ DR
     have F0:w6.frozen? ⟨w.heap.size+1,0,none⟩=false:=fR w6 (w.heap.size+1) 0 _ _ DR
     have q1:w6.cell? ⟨w.heap.size+1,1,none⟩=some (.slice none 0 0):=cR _ _ _ _ _ _ DR
     have F1:w6.frozen? ⟨w.heap.size+1,1,none⟩=false:=fR w6 (w.heap.size+1) 1 _ _ DR
     have q2:w6.cell? ⟨w.heap.size+1,2,none⟩=some (.slice none 0 0):=cR _ _ _ _ _ _ DR
     have F2:w6.frozen? ⟨w.heap.size+1,2,none⟩=false:=fR w6 (w.heap.size+1) 2 _ _ DR
     have q3:w6.cell? ⟨w.heap.size+1,3,none⟩=some (.bool false):=cR _ _ _ _ _ _ DR
     have F3:w6.frozen? ⟨w.heap.size+1,3,none⟩=false:=fR w6 (w.heap.size+1) 3 _ _ DR
     have q4:w6.cell? ⟨w.heap.size+1,4,none⟩=some (.slice none 0 0):=cR _ _ _ _ _ _ DR
     have F4:w6.frozen? ⟨w.heap.size+1,4,none⟩=false:=fR w6 (w.heap.size+1) 4 _ _ DR
     have q5:w6.cell? ⟨w.heap.size+1,5,none⟩=some (.slice none 0 0):=cR _ _ _ _ _ _ DR
     have F5:w6.frozen? ⟨w.heap.size+1,5,none⟩=false:=fR w6 (w.heap.size+1) 5 _ _ DR
     have FB:=FB6.out
     have FV:=KVo6.out
     obtain ⟨ue,hw⟩:=eX (((((((w6.setCell ⟨w.heap.size+1,0,none⟩ (.bool (decide (lo.num<0)))).setCell ⟨w.heap.size+1,1,none⟩ (.slice C7 (Vx.len lo.num.natAbs) j7)).setCell ⟨w.heap.size+1,2,none⟩ (.slice C8 (Vx.len (below lo.den)) j8)).setCell ⟨w.heap.size+1,3,none⟩ (.bool (decide (hi.num<0)))).setCell ⟨w.heap.size+1,4,none⟩ (.slice C9 (Vx.len hi.num.natAbs) j9)).setCell ⟨w.heap.size+1,5,none⟩ (.slice C10 (Vx.len (below hi.den)) j10)))
     obtain ⟨E_ue,-,LV,BL⟩:=Av DR hw
     have FE:=hid (LV.box FV)
     replace FB:=hid (BL _ _ (by omega) FB)
     replace E_ue:=hid E_ue
     replace hw:=hid hw
     clear DR FV LV BL
     go_wp2_with fail
     rw [←hw.out]
     obtain ⟨r0,r1,r2,r3,r4,r5⟩:=Af E_ue.out
     refine bP (v:=.tuple #[.agg #[.bool (decide (lo.num<0)),.slice C7 (Vx.len lo.num.natAbs) j7,.slice C8 (Vx.len (below lo.den)) j8,.bool (decide (hi.num<0)),.slice C9 (Vx.len hi.num.natAbs) j9,.slice C10 (Vx.len (below hi.den)) j10],.int .i64 0]) ?_ rfl ⟨_,rfl,FE.out,FB.out⟩
     simp [results,Tryz.results36,go_sem,r0,r1,r2,r3,r4,r5]
 case k8q1 =>
   intro K hK
   have lb_all:w3.heap.size≤w3.heap.size:=nL _
   go_simp
   obtain ⟨w4,hw4⟩:=eX (w3.alloc (.cells #[.bool false,.slice none 0 0,.slice none 0 0,.bool false,.slice none 0 0,.slice none 0 0] 34))
   have b4:=hid (Ar hw4)
   have L4:=hid (At' hw4)
   rw [←hw4]
   clear hw4
   have y2_4:=hid (bS b3.out b4.out)
   have hS:=y2_4.out
   clear hHeld
   refine hK.out _ _ ?_ (fun hHeld=>?_)
   · (try dsimp only)
     exact ⟨hS.cell (p:=⟨w.heap.size,0,none⟩) hpb,hS.cell (p:=⟨w.heap.size,1,none⟩) hpb,hS.cell (p:=⟨w.heap.size,2,none⟩) hpb,hS.cell (p:=⟨w.heap.size,3,none⟩) hpb,hS.cell (p:=⟨w.heap.size,4,none⟩) hpb,hS.cell (p:=⟨w.heap.size,5,none⟩) hpb,hS.cell (p:=⟨w.heap.size,6,none⟩) hpb,hS.cell (p:=⟨w.heap.size,7,none⟩) hpb,hS.cell (p:=⟨w.heap.size,8,none⟩) hpb,hS.cell (p:=⟨rb,ro,none⟩) hrb2,hS.cell (p:=⟨rb,ro+1,none⟩) hrb2,hS.cell (p:=⟨rb,ro+2,none⟩) hrb2,hS.cell (p:=⟨rb,ro+3,none⟩) hrb2,hS.cell (p:=⟨rb,ro+3+1,none⟩) hrb2,hS.cell (p:=⟨rb,ro+3+2,none⟩) hrb2⟩
   clear hK K hS;try simp only [Act.put,lt,ly,lu]
   refine rd (i:=7) (h:=fun K hK=>?_)
   have y0_4:=hid (bS y0_3.out b4.out)
   go_simp;go_at_call 63
   refine (EU (hp.out.keep y0_4.out) (hx.out.keep y0_4.out) (hy.out.keep y0_4.out) sx.out sy.out sr.out.1 sg.out sr.out.2 el.out eh.out).mono ?_
   rintro e w5 ⟨v5,rfl,hv5,b5⟩
   obtain ⟨C11,j11,C12,j12,C13,j13,C14,j14,rfl,-,-,-,-⟩:=id hv5.opened
   replace hv5:=hid hv5
   replace b5:=hid b5
   have y2_5:=hid (bS y2_4.out b5.out)
   have hS:=y2_5.out
   clear hHeld
   refine hK.out _ _ ?_ (fun hHeld=>?_)
   · (try dsimp only)
     exact ⟨hS.cell (p:=⟨w.heap.size,0,none⟩) hpb,hS.cell (p:=⟨w.heap.size,1,none⟩) hpb,hS.cell (p:=⟨w.heap.size,2,none⟩) hpb,hS.cell (p:=⟨w.heap.size,3,none⟩) hpb,hS.cell (p:=⟨w.heap.size,4,none⟩) hpb,hS.cell (p:=⟨w.heap.size,5,none⟩) hpb,hS.cell (p:=⟨w.heap.size,6,none⟩) hpb,hS.cell (p:=⟨w.heap.size,7,none⟩) hpb,hS.cell (p:=⟨w.heap.size,8,none⟩) hpb,hS.cell (p:=⟨rb,ro,none⟩) hrb2,hS.cell (p:=⟨rb,ro+1,none⟩) hrb2,hS.cell (p:=⟨rb,ro+2,none⟩) hrb2,hS.cell (p:=⟨rb,ro+3,none⟩) hrb2,hS.cell (p:=⟨rb,ro+3+1,none⟩) hrb2,hS.cell (p:=⟨rb,ro+3+2,none⟩) hrb2⟩
   clear hK K hS;try simp only [Act.put,lt,ly,lu]
   refine rd (i:=9) (h:=fun K hK=>?_)
   have DBq7:=Ac' L4.out b5.out
   have q0:w5.cell? ⟨w3.heap.size,0,none⟩=some (.bool false):=cR _ _ _ _ _ _ DBq7
   have F0:w5.frozen? ⟨w3.heap.size,0,none⟩=false:=fR w5 (w3.heap.size) 0 _ _ DBq7
   have q1:w5.cell? ⟨w3.heap.size,1,none⟩=some (.slice none 0 0):=cR _ _ _ _ _ _ DBq7
   have F1:w5.frozen? ⟨w3.heap.size,1,none⟩=false:=fR w5 (w3.heap.size) 1 _ _ DBq7
   have q2:w5.cell? ⟨w3.heap.size,2,none⟩=some (.slice none 0 0):=cR _ _ _ _ _ _ DBq7
   have F2:w5.frozen? ⟨w3.heap.size,2,none⟩=false:=fR w5 (w3.heap.size) 2 _ _ DBq7
   have q3:w5.cell? ⟨w3.heap.size,3,none⟩=some (.bool false):=cR _ _ _ _ _ _ DBq7
   have F3:w5.frozen? ⟨w3.heap.size,3,none⟩=false:=fR w5 (w3.heap.size) 3 _ _ DBq7
   have q4:w5.cell? ⟨w3.heap.size,4,none⟩=some (.slice none 0 0):=cR _ _ _ _ _ _ DBq7
   have F4:w5.frozen? ⟨w3.heap.size,4,none⟩=false:=fR w5 (w3.heap.size) 4 _ _ DBq7
   have q5:w5.cell? ⟨w3.heap.size,5,none⟩=some (.slice none 0 0):=cR _ _ _ _ _ _ DBq7
   have F5:w5.frozen? ⟨w3.heap.size,5,none⟩=false:=fR w5 (w3.heap.size) 5 _ _ DBq7
   have y0_5:=hid (bS y0_4.out b5.out)
   have y1_5:=hid (bS (bS y1_3.out b4.out) b5.out)
   have hS:=y2_5.out
   have hz6:w2.heap.size≤w5.heap.size:=hS.size
   go_simp
   clear q0 F0 q1 F1 q2 F2 q3 F3 q4 F4 q5 F5
   have FV:=hid hv5.out
   have FB:=hid y0_5.out
   obtain ⟨w6,hw⟩:=eX (((((((w5.setCell ⟨w3.heap.size,0,none⟩ (.bool (decide (lo.num<0)))).setCell ⟨w3.heap.size,1,none⟩ (.slice C11 (Vx.len lo.num.natAbs) j11)).setCell ⟨w3.heap.size,2,none⟩ (.slice C12 (Vx.len (below lo.den)) j12)).setCell ⟨w3.heap.size,3,none⟩ (.bool (decide (hi.num<0)))).setCell ⟨w3.heap.size,4,none⟩ (.slice C13 (Vx.len hi.num.natAbs) j13)).setCell ⟨w3.heap.size,5,none⟩ (.slice C14 (Vx.len (below hi.den)) j14)))
   have hse6:w6.heap.size=w5.heap.size:=by rw [hw];simp
   obtain ⟨E,OT,LV,BL⟩:=Av DBq7 hw
   rw [←hw]
   clear hw
   have L6:=hid E
   have FB6:=hid (BL _ _ (by omega) FB.out)
   have HS6:=hid (BL _ _ (show w2.heap.size≤w3.heap.size by omega) hS)
   have LKR6:=hid (OT _ _ (by omega) (Ac' g2.out y1_5.out))
   have KVo6:=hid (LV.box hv5.out)
   have s0_6:w6.cell? ⟨w.heap.size,0,none⟩=w2.cell? ⟨w.heap.size,0,none⟩:=(Aa' OT (by omega) (ltl hpb hz6)).trans (hS.cell (p:=⟨w.heap.size,0,none⟩) hpb)
   have s1_6:w6.cell? ⟨w.heap.size,1,none⟩=w2.cell? ⟨w.heap.size,1,none⟩:=(Aa' OT (by omega) (ltl hpb hz6)).trans (hS.cell (p:=⟨w.heap.size,1,none⟩) hpb)
   have s2_6:w6.cell? ⟨w.heap.size,2,none⟩=w2.cell? ⟨w.heap.size,2,none⟩:=(Aa' OT (by omega) (ltl hpb hz6)).trans (hS.cell (p:=⟨w.heap.size,2,none⟩) hpb)
   have s3_6:w6.cell? ⟨w.heap.size,3,none⟩=w2.cell? ⟨w.heap.size,3,none⟩:=(Aa' OT (by omega) (ltl hpb hz6)).trans (hS.cell (p:=⟨w.heap.size,3,none⟩) hpb)
   have s4_6:w6.cell? ⟨w.heap.size,4,none⟩=w2.cell? ⟨w.heap.size,4,none⟩:=(Aa' OT (by omega) (ltl hpb hz6)).trans (hS.cell (p:=⟨w.heap.size,4,none⟩) hpb)
   have s5_6:w6.cell? ⟨w.heap.size,5,none⟩=w2.cell? ⟨w.heap.size,5,none⟩:=(Aa' OT (by omega) (ltl hpb hz6)).trans (hS.cell (p:=⟨w.heap.size,5,none⟩) hpb)
   have s6_6:w6.cell? ⟨w.heap.size,6,none⟩=w2.cell? ⟨w.heap.size,6,none⟩:=(Aa' OT (by omega) (ltl hpb hz6)).trans (hS.cell (p:=⟨w.heap.size,6,none⟩) hpb)
   have s7_6:w6.cell? ⟨w.heap.size,7,none⟩=w2.cell? ⟨w.heap.size,7,none⟩:=(Aa' OT (by omega) (ltl hpb hz6)).trans (hS.cell (p:=⟨w.heap.size,7,none⟩) hpb)
   have s8_6:w6.cell? ⟨w.heap.size,8,none⟩=w2.cell? ⟨w.heap.size,8,none⟩:=(Aa' OT (by omega) (ltl hpb hz6)).trans (hS.cell (p:=⟨w.heap.size,8,none⟩) hpb)
   have s9_6:w6.cell? ⟨rb,ro,none⟩=w2.cell? ⟨rb,ro,none⟩:=(Aa' OT (by omega) (ltl hrb2 hz6)).trans (hS.cell (p:=⟨rb,ro,none⟩) hrb2)
   have s10_6:w6.cell? ⟨rb,ro+1,none⟩=w2.cell? ⟨rb,ro+1,none⟩:=(Aa' OT (by omega) (ltl hrb2 hz6)).trans (hS.cell (p:=⟨rb,ro+1,none⟩) hrb2)
   have s11_6:w6.cell? ⟨rb,ro+2,none⟩=w2.cell? ⟨rb,ro+2,none⟩:=(Aa' OT (by omega) (ltl hrb2 hz6)).trans (hS.cell (p:=⟨rb,ro+2,none⟩) hrb2)
   have s12_6:w6.cell? ⟨rb,ro+3,none⟩=w2.cell? ⟨rb,ro+3,none⟩:=(Aa' OT (by omega) (ltl hrb2 hz6)).trans (hS.cell (p:=⟨rb,ro+3,none⟩) hrb2)
   have s13_6:w6.cell? ⟨rb,ro+3+1,none⟩=w2.cell? ⟨rb,ro+3+1,none⟩:=(Aa' OT (by omega) (ltl hrb2 hz6)).trans (hS.cell (p:=⟨rb,ro+3+1,none⟩) hrb2)
   have s14_6:w6.cell? ⟨rb,ro+3+2,none⟩=w2.cell? ⟨rb,ro+3+2,none⟩:=(Aa' OT (by omega) (ltl hrb2 hz6)).trans (hS.cell (p:=⟨rb,ro+3+2,none⟩) hrb2)
   refine hK.out _ _ ?_ (fun hHeld2=>?_)
   · (try dsimp only)
     exact ⟨s0_6,s1_6,s2_6,s3_6,s4_6,s5_6,s6_6,s7_6,s8_6,s9_6,s10_6,s11_6,s12_6,s13_6,s14_6⟩
   clear hK K hHeld hS OT LV BL FV FB E DBq7 s0_6 s1_6 s2_6 s3_6 s4_6 s5_6 s6_6 s7_6 s8_6 s9_6 s10_6 s11_6 s12_6 s13_6 s14_6
   try simp only [Act.put,lt,ly,lu]
   have hHeld:=hHeld2
   clear hHeld2
   refine wpAnyH_done (by kernel_rfl) ?_ _
   clear hHeld
   go_wp2_with fail
   go_loopw [8] (fun iv wr=>iv=.int .i64 2∧wr=w6) (fun _ _=>0)
   case atStart=>exact ⟨rfl,rfl⟩
   case round =>
     obtain ⟨rfl,hwr⟩:=hrel
     rw [hwr]
     clear hwr
     obtain ⟨z_all_0,z_all_1,z_all_2,z_all_3,z_all_4,z_all_5⟩:=Af L6.out
     have DR:=LKR6.out
     have q0:w6.cell? ⟨w.heap.size+1,0,none⟩=some (.bool false):=cR _ _ _ _ _ _ DR
     have F0:w6.frozen? ⟨w.heap.size+1,0,none⟩=false:=fR w6 (w.heap.size+1) 0 _ _ DR
     have q1:w6.cell? ⟨w.heap.size+1,1,none⟩=some (.slice none 0 0):=cR _ _ _ _ _ _ DR
     have F1:w6.frozen? ⟨w.heap.size+1,1,none⟩=false:=fR w6 (w.heap.size+1) 1 _ _ DR
     have q2:w6.cell? ⟨w.heap.size+1,2,none⟩=some (.slice none 0 0):=cR _ _ _ _ _ _ DR
     have F2:w6.frozen? ⟨w.heap.size+1,2,none⟩=false:=fR w6 (w.heap.size+1) 2 _ _ DR
     have q3:w6.cell? ⟨w.heap.size+1,3,none⟩=some (.bool false):=cR _ _ _ _ _ _ DR
     have F3:w6.frozen? ⟨w.heap.size+1,3,none⟩=false:=fR w6 (w.heap.size+1) 3 _ _ DR
     have q4:w6.cell? ⟨w.heap.size+1,4,none⟩=some (.slice none 0 0):=cR _ _ _ _ _ _ DR
     have F4:w6.frozen? ⟨w.heap.size+1,4,none⟩=false:=fR w6 (w.heap.size+1) 4 _ _ DR
     have q5:w6.cell? ⟨w.heap.size+1,5,none⟩=some (.slice none 0 0):=cR _ _ _ _ _ _ DR
     have F5:w6.frozen? ⟨w.heap.size+1,5,none⟩=false:=fR w6 (w.heap.size+1) 5 _ _ DR
     have FB:=FB6.out
     have FV:=KVo6.out
     obtain ⟨ue,hw⟩:=eX (((((((w6.setCell ⟨w.heap.size+1,0,none⟩ (.bool (decide (lo.num<0)))).setCell ⟨w.heap.size+1,1,none⟩ (.slice C11 (Vx.len lo.num.natAbs) j11)).setCell ⟨w.heap.size+1,2,none⟩ (.slice C12 (Vx.len (below lo.den)) j12)).setCell ⟨w.heap.size+1,3,none⟩ (.bool (decide (hi.num<0)))).setCell ⟨w.heap.size+1,4,none⟩ (.slice C13 (Vx.len hi.num.natAbs) j13)).setCell ⟨w.heap.size+1,5,none⟩ (.slice C14 (Vx.len (below hi.den)) j14)))
     obtain ⟨E_ue,-,LV,BL⟩:=Av DR hw
     have FE:=hid (LV.box FV)
     replace FB:=hid (BL _ _ (by omega) FB)
     replace E_ue:=hid E_ue
     replace hw:=hid hw
     clear DR FV LV BL
     go_wp2_with fail
     rw [←hw.out]
     obtain ⟨r0,r1,r2,r3,r4,r5⟩:=Af E_ue.out
     refine bP (v:=.tuple #[.agg #[.bool (decide (lo.num<0)),.slice C11 (Vx.len lo.num.natAbs) j11,.slice C12 (Vx.len (below lo.den)) j12,.bool (decide (hi.num<0)),.slice C13 (Vx.len hi.num.natAbs) j13,.slice C14 (Vx.len (below hi.den)) j14],.int .i64 0]) ?_ rfl ⟨_,rfl,FE.out,FB.out⟩
     simp [results,Tryz.results36,go_sem,r0,r1,r2,r3,r4,r5]
end Go.Proofs.YtcicfnlljdnagaaGreatDoor.Rf
