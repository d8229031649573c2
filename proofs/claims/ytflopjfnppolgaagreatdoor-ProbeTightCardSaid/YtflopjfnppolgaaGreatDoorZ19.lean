/-
  Contracts of the functions that the law calls, for every input (BoxE BoxF NumN KnB KnC).
-/
import Derived.Test.YtflopjfnppolgaaGreatDoorZ00
import Derived.Test.YtflopjfnppolgaaGreatDoorZ18
import Derived.Test.YtflopjfnppolgaaGreatDoorZ11
import Derived.Test.YtflopjfnppolgaaGreatDoorZ08
import Derived.Test.YtflopjfnppolgaaGreatDoorZ09
set_option linter.all false
set_option maxRecDepth 100000
set_option maxHeartbeats 40000000
namespace Go.Proofs.YtflopjfnppolgaaGreatDoor
open Lib (hid)
open Go.RowKit
open Vx
structure Pt where
  (s:Bool) (A1:Option Addr) (n1 c1:Nat) (A2:Option Addr) (n2 c2:Nat)
def Pt.v0 (p:Pt):Value:=.bool p.s
def Pt.v1 (p:Pt):Value:=.slice p.A1 p.n1 p.c1
def Pt.v2 (p:Pt):Value:=.slice p.A2 p.n2 p.c2
def AR (w:World) (b:Nat) (p:Pt):Prop:=w.heap[b]?=some (.cells #[p.v0,p.v1,p.v2] 35 (0,0))
def Pt.is (p:Pt) (w:World) (q:Rat):Prop:=Ac' w (.agg #[p.v0,p.v1,p.v2]) q
theorem AR.lt {w:World} {b:Nat} {p:Pt} (h:AR w b p):b<w.heap.size:=(gE.1 h).1
theorem AR.call {w w':World} {b:Nat} {p:Pt} (h:AR w b p) (hb:Below w.heap.size w w'):AR w' b p:=(hb.block _ h.lt).trans h
theorem AR.other {w:World} {b g i:Nat} {p:Pt} {v:Value} (h:AR w b p) (hne:b≠g):AR (w.setCell ⟨g,i,none⟩ v) b p:=by
 unfold AR
 rw [heap_setCell_other _ _ _ _ hne]
 exact h
theorem AR.c0 {w:World} {b:Nat} {p:Pt} (h:AR w b p):w.cell? ⟨b,0,none⟩=some (.bool p.s):=cR _ _ _ _ _ _ h
theorem AR.c1' {w:World} {b:Nat} {p:Pt} (h:AR w b p):w.cell? ⟨b,1,none⟩=some (.slice p.A1 p.n1 p.c1):=cR _ _ _ _ _ _ h
theorem AR.c2' {w:World} {b:Nat} {p:Pt} (h:AR w b p):w.cell? ⟨b,2,none⟩=some (.slice p.A2 p.n2 p.c2):=cR _ _ _ _ _ _ h
theorem AR.fr {w:World} {b:Nat} {p:Pt} (h:AR w b p) (i:Nat):w.frozen? ⟨b,i,none⟩=false:=fR w b i _ _ h
theorem Aq'.other {n:Nat} {T:TypeId} {wB w:World} {G g i:Nat} {v:Value} (h:Aq' n T wB G w) (hlt:G<g):Aq' n T wB G (w.setCell ⟨g,i,none⟩ v):=by
 obtain ⟨h1,cs,h2,h3,h4⟩:=h
 refine ⟨h1.setCell (p:=⟨g,i,none⟩) (Nat.le_of_lt hlt) v,cs,h2,h3,?_⟩
 rw [heap_setCell_other _ _ _ _ (by show G≠g;omega)]
 exact h4
theorem Aq'.alloc {n:Nat} {T:TypeId} {wB w:World} {G:Nat} {o:Obj} (h:Aq' n T wB G w):Aq' n T wB G (w.alloc o):=h.call ((Below.refl _ _).alloc (nL _) _)
def BR' (w:World) (b:Nat) (p:Pt):World:=((w.setCell ⟨b,0,none⟩ (.bool p.s)).setCell ⟨b,1,none⟩ (.slice p.A1 p.n1 p.c1)).setCell ⟨b,2,none⟩ (.slice p.A2 p.n2 p.c2)
theorem AR.put3 {w:World} {b:Nat} {p q:Pt} (h:AR w b p):AR (BR' w b q) b q:=C5' rfl h _ _ _
theorem AR.put3o {w:World} {b g:Nat} {p q:Pt} (h:AR w b p) (hne:b≠g):AR (Go.Proofs.YtflopjfnppolgaaGreatDoor.BR' w g q) b p:=((h.other hne).other hne).other hne
theorem Aq'.put3 {n:Nat} {T:TypeId} {wB w:World} {G g:Nat} {q:Pt} (h:Aq' n T wB G w) (hlt:G<g):Aq' n T wB G (Go.Proofs.YtflopjfnppolgaaGreatDoor.BR' w g q):=((h.other hlt).other hlt).other hlt
def AG (w:World) (b o:Nat) (l:List Rat):Prop:=∀ (i:Nat) (q:Rat),l[i]?=some q→∃ p:Pt,w.cell? ⟨b,o+i*3,none⟩=some (.bool p.s)∧w.cell? ⟨b,o+i*3+1,none⟩=some (.slice p.A1 p.n1 p.c1)∧w.cell? ⟨b,o+i*3+2,none⟩=some (.slice p.A2 p.n2 p.c2)∧p.is w q
def leastOf (x:Rat) (l:List Rat):Rat:=l.foldl (fun m y=>if y<m then y else m) x
def greatestOf (x:Rat) (l:List Rat):Rat:=l.foldl (fun m y=>if m<y then y else m) x
theorem BK {x:Rat} {l:List Rat} {i:Nat} {q:Rat} (h:l[i]?=some q):leastOf x (l.take (i+1))=if q<leastOf x (l.take i) then q else leastOf x (l.take i):=by
 rw [List.take_add_one,h]
 simp only [Option.toList_some,leastOf,List.foldl_append,List.foldl_cons,List.foldl_nil]
 rfl
theorem Bn {x:Rat} {l:List Rat} {i:Nat} {q:Rat} (h:l[i]?=some q):greatestOf x (l.take (i+1))=if greatestOf x (l.take i)<q then q else greatestOf x (l.take i):=by
 rw [List.take_add_one,h]
 simp only [Option.toList_some,greatestOf,List.foldl_append,List.foldl_cons,List.foldl_nil]
 rfl
def BA (w wB:World) (G bl bg:Nat) (m M:Rat) (wr:World):Prop :=
  Aq' 6 37 wB G wr∧Below w.heap.size w wr∧(∃ p:Pt,AR wr bl p∧p.is w m)∧(∃ p:Pt,AR wr bg p∧p.is w M)
theorem BA.call {w wB wr wr':World} {G bl bg:Nat} {m M:Rat} (h:BA w wB G bl bg m M wr) (hb:Below wr.heap.size wr wr'):BA w wB G bl bg m M wr':=by
 obtain ⟨h1,h2,⟨p,h3,h4⟩,q,h5,h6⟩:=h
 exact ⟨h1.call hb,h2.trans (hb.mono h2.size),⟨p,h3.call hb,h4⟩,q,h5.call hb,h6⟩
theorem DR' {N:Nat} {w wr:World} {b:Nat} {p:Pt} (h:Below N w wr) (hb:N≤b):Below N w (Go.Proofs.YtflopjfnppolgaaGreatDoor.BR' wr b p) :=
 ((h.setCell (p:=⟨b,0,none⟩) hb _).setCell (p:=⟨b,1,none⟩) hb _).setCell (p:=⟨b,2,none⟩) hb _
theorem BA.putl {w wB wr:World} {G bl bg:Nat} {m M q:Rat} {p:Pt} (h:BA w wB G bl bg m M wr) (hp:p.is w q) (hne:bg≠bl) (hlt:G<bl) (hw:w.heap.size≤bl):BA w wB G bl bg q M (Go.Proofs.YtflopjfnppolgaaGreatDoor.BR' wr bl p):=by
 obtain ⟨h1,h2,⟨p',h3,h4⟩,q',h5,h6⟩:=h
 exact ⟨h1.put3 hlt,DR' h2 hw,⟨p,h3.put3,hp⟩,q',h5.put3o hne,h6⟩
theorem BA.putg {w wB wr:World} {G bl bg:Nat} {m M q:Rat} {p:Pt} (h:BA w wB G bl bg m M wr) (hp:p.is w q) (hne:bl≠bg) (hlt:G<bg) (hw:w.heap.size≤bg):BA w wB G bl bg m q (Go.Proofs.YtflopjfnppolgaaGreatDoor.BR' wr bg p):=by
 obtain ⟨h1,h2,⟨p',h3,h4⟩,q',h5,h6⟩:=h
 exact ⟨h1.put3 hlt,DR' h2 hw,⟨p',h3.put3o hne,h4⟩,p,h5.put3,hp⟩
theorem Dv (l:List Rat):∀ (x:Rat),leastOf x l=x∨leastOf x l∈l:=by
 unfold leastOf
 induction l with
 | nil=>exact fun x=>Or.inl rfl
 | cons y l ih =>
   intro x
   simp only [List.foldl_cons,List.mem_cons]
   rcases ih (if y<x then y else x) with h | h
   · rw [h];split
     · exact Or.inr (Or.inl rfl)
     · exact Or.inl rfl
   · exact Or.inr (Or.inr h)
theorem CP (l:List Rat):∀ (x:Rat),greatestOf x l=x∨greatestOf x l∈l:=by
 unfold greatestOf
 induction l with
 | nil=>exact fun x=>Or.inl rfl
 | cons y l ih =>
   intro x
   simp only [List.foldl_cons,List.mem_cons]
   rcases ih (if x<y then y else x) with h | h
   · rw [h];split
     · exact Or.inr (Or.inl rfl)
     · exact Or.inl rfl
   · exact Or.inr (Or.inr h)
theorem BU' {x:Rat} {l:List Rat} {N:Nat} (hs:Aa' x≤N) (hs2:∀ y∈l,Aa' y≤N) (k:Nat):Aa' (leastOf x (l.take k))≤N:=by
 rcases Dv (l.take k) x with h | h
 · rw [h];exact hs
 · exact hs2 _ (List.mem_of_mem_take h)
theorem Bu {x:Rat} {l:List Rat} {N:Nat} (hs:Aa' x≤N) (hs2:∀ y∈l,Aa' y≤N) (k:Nat):Aa' (greatestOf x (l.take k))≤N:=by
 rcases CP (l.take k) x with h | h
 · rw [h];exact hs
 · exact hs2 _ (List.mem_of_mem_take h)
theorem cmpQ_lt0 {x y:Rat}:cmpQ x y<0↔x<y:=by
 unfold cmpQ
 split
 · rename_i h
   exact ⟨fun _=>h,fun _=>by omega⟩
 · rename_i h
   split <;> exact ⟨fun h2=>by omega,fun h2=>absurd h2 h⟩
theorem Bb {x y:Rat}:cmpQ x y>0↔y<x:=by
 constructor
 · intro h
   rcases Decidable.em (y<x) with h3 | h3
   · exact h3
   · exact absurd h (Cc' (Rat.not_lt.1 h3))
 · intro h
   exact CO' (fun h2=>absurd h (Rat.not_lt.2 h2))
theorem AR.drew {w:World} {b:Nat} {p:Pt} (h:AR w b p):AR w.drew b p:=h.call ⟨rfl,rfl,rfl,nL _,fun _ _=>rfl⟩
def Bj (wB:World) (G bl bg:Nat) (s1:Bool) (A1:Option Addr) (n1 c1:Nat) (A2:Option Addr) (n2 c2:Nat) (s2:Bool) (A3:Option Addr) (n3 c3:Nat) (A4:Option Addr) (n4 c4:Nat) (wS w:World):Prop :=
  (w.cell? ⟨bl,0,none⟩=some (.bool s1)∧w.cell? ⟨bl,1,none⟩=some (.slice A1 n1 c1)∧w.cell? ⟨bl,2,none⟩=some (.slice A2 n2 c2))∧(w.cell? ⟨bg,0,none⟩=some (.bool s2)∧w.cell? ⟨bg,1,none⟩=some (.slice A3 n3 c3)∧w.cell? ⟨bg,2,none⟩=some (.slice A4 n4 c4))∧(AR w (bl) ⟨s1,A1,n1,c1,A2,n2,c2⟩∧AR w (bg) ⟨s2,A3,n3,c3,A4,n4,c4⟩)∧(∀ b o,b<G→w.cell? ⟨b,o,none⟩=wB.cell? ⟨b,o,none⟩)∧w.cell? ⟨G,0,none⟩=some (cur w ⟨G,0,none⟩)∧w.cell? ⟨G,1,none⟩=some (cur w ⟨G,1,none⟩)∧w.cell? ⟨G,2,none⟩=some (cur w ⟨G,2,none⟩)∧w.cell? ⟨G,3,none⟩=some (cur w ⟨G,3,none⟩)∧w.cell? ⟨G,4,none⟩=some (cur w ⟨G,4,none⟩)∧w.cell? ⟨G,5,none⟩=some (cur w ⟨G,5,none⟩)∧w.frozen? ⟨G,0,none⟩=false∧w.frozen? ⟨G,1,none⟩=false∧w.frozen? ⟨G,2,none⟩=false∧w.frozen? ⟨G,3,none⟩=false∧w.frozen? ⟨G,4,none⟩=false∧w.frozen? ⟨G,5,none⟩=false∧Aq' 6 37 wB (G) w∧An' wS w
theorem Ax'.locs {wB wS w:World} {G bl bg:Nat} {s1:Bool} {A1:Option Addr} {n1 c1:Nat} {A2:Option Addr} {n2 c2:Nat} {s2:Bool} {A3:Option Addr} {n3 c3:Nat} {A4:Option Addr} {n4 c4:Nat} (h:Ax' wB G wS w) (h1:AR w bl ⟨s1,A1,n1,c1,A2,n2,c2⟩) (h2:AR w bg ⟨s2,A3,n3,c3,A4,n4,c4⟩):Bj wB G bl bg s1 A1 n1 c1 A2 n2 c2 s2 A3 n3 c3 A4 n4 c4 wS w :=
 ⟨⟨h1.c0,h1.c1',h1.c2'⟩,⟨h2.c0,h2.c1',h2.c2'⟩,⟨h1,h2⟩,h⟩
theorem Bj.held {wB wS w:World} {G bl bg:Nat} {s1:Bool} {A1:Option Addr} {n1 c1:Nat} {A2:Option Addr} {n2 c2:Nat} {s2:Bool} {A3:Option Addr} {n3 c3:Nat} {A4:Option Addr} {n4 c4:Nat} (h:Bj wB G bl bg s1 A1 n1 c1 A2 n2 c2 s2 A3 n3 c3 A4 n4 c4 wS w):Ax' wB G wS w:=by
 obtain ⟨-,-,-,h⟩:=h
 exact h
theorem Bj.call {wB wS w w':World} {G bl bg:Nat} {s1:Bool} {A1:Option Addr} {n1 c1:Nat} {A2:Option Addr} {n2 c2:Nat} {s2:Bool} {A3:Option Addr} {n3 c3:Nat} {A4:Option Addr} {n4 c4:Nat} (h:Bj wB G bl bg s1 A1 n1 c1 A2 n2 c2 s2 A3 n3 c3 A4 n4 c4 wS w) (hb:Below w.heap.size w w'):Bj wB G bl bg s1 A1 n1 c1 A2 n2 c2 s2 A3 n3 c3 A4 n4 c4 wS w':=by
 obtain ⟨-,-,⟨h1,h2⟩,h⟩:=h
 exact (Ax'.call h hb).locs (h1.call hb) (h2.call hb)
theorem Bj.store {wB wS w:World} {G bl bg:Nat} {s1:Bool} {A1:Option Addr} {n1 c1:Nat} {A2:Option Addr} {n2 c2:Nat} {s2:Bool} {A3:Option Addr} {n3 c3:Nat} {A4:Option Addr} {n4 c4:Nat} {t1 t2:Bool} {E1 E2 E3 E4:Option Addr} {e1 d1 e2 d2 e3 d3 e4 d4:Nat} (h:Bj wB G bl bg s1 A1 n1 c1 A2 n2 c2 s2 A3 n3 c3 A4 n4 c4 wS w) (hl:bl≠G) (hg:bg≠G) :
   Bj wB G bl bg s1 A1 n1 c1 A2 n2 c2 s2 A3 n3 c3 A4 n4 c4 wS ((((((w.setCell ⟨G,0,none⟩ (.bool t1)).setCell ⟨G,1,none⟩ (.slice E1 e1 d1)).setCell ⟨G,2,none⟩ (.slice E2 e2 d2)).setCell ⟨G,3,none⟩ (.bool t2)).setCell ⟨G,4,none⟩ (.slice E3 e3 d3)).setCell ⟨G,5,none⟩ (.slice E4 e4 d4)):=by
 obtain ⟨-,-,⟨h1,h2⟩,h⟩:=h
 exact (Ax'.store h).locs ((((((h1.other hl).other hl).other hl).other hl).other hl).other hl) ((((((h2.other hg).other hg).other hg).other hg).other hg).other hg)
theorem HJ' {w:World} {vx:Value} {x:Rat} {b o c:Nat} {l:List Rat} (hx:Ac' w vx x) (hl:AG w b o l) (hn:l.length≤1000) (hs:Aa' x≤34359738368) (hs2:∀ y∈l,Aa' y≤34359738368) :
   Calls Tryz.prog 110 #[vx,.slice (some ⟨b,o,none⟩) l.length c] w (Bt' w (leastOf x l) (greatestOf x l)):=by
 obtain ⟨A1,c1,A2,c2,rfl,-,-⟩:=id hx.opened
 obtain ⟨wB,hwB⟩:=eX ((w.alloc (.cells #[.bool (decide (x.num<0)),.slice A1 (len x.num.natAbs) c1,.slice A2 (len (below x.den)) c2] 35)).alloc (.cells #[.bool false,.slice none 0 0,.slice none 0 0,.bool false,.slice none 0 0,.slice none 0 0] 37))
 obtain ⟨b0,g0,g1⟩:=AL' hwB
 obtain ⟨k0,k1,k2⟩:=Ad' g0
 have HK0:=hid (Aq'.start (T:=37) rfl CO g1)
 have HB0:=hid b0
 have hlt1:w.heap.size<w.heap.size+1:=by omega
 clear g0 g1 b0
 obtain ⟨w1,hw1⟩:=eX (((wB.alloc (.cells #[.bool (decide (x.num<0)),.slice A1 (len x.num.natAbs) c1,.slice A2 (len (below x.den)) c2] 35)).alloc (.cells #[.bool (decide (x.num<0)),.slice A1 (len x.num.natAbs) c1,.slice A2 (len (below x.den)) c2] 35)).drew)
 obtain ⟨b1,g1,g2⟩:=DN' wB (.cells #[.bool (decide (x.num<0)),.slice A1 (len x.num.natAbs) c1,.slice A2 (len (below x.den)) c2] 35) (.cells #[.bool (decide (x.num<0)),.slice A1 (len x.num.natAbs) c1,.slice A2 (len (below x.den)) c2] 35)
 have L1:Hid (AR w1 wB.heap.size ⟨decide (x.num<0),A1,len x.num.natAbs,c1,A2,len (below x.den),c2⟩):=by rw [hw1];exact g1
 have L2:Hid (AR w1 (wB.heap.size+1) ⟨decide (x.num<0),A1,len x.num.natAbs,c1,A2,len (below x.den),c2⟩):=by rw [hw1];exact g2
 have HK1:Hid (Aq' 6 37 wB (w.heap.size+1) w1):=by rw [hw1];exact (HK0.out.call b1).drew
 have hGlt:w.heap.size+1<wB.heap.size:=HK0.out.block_lt
 have hBw:Hid (Below w.heap.size w w1):=Ak' HB0.out (by omega) HK1.out.1
 have hx':Hid (Pt.is ⟨decide (x.num<0),A1,len x.num.natAbs,c1,A2,len (below x.den),c2⟩ w x):=hx
 clear b1 g1 g2 hx
 replace hl:=hid hl
 replace hs:=hid hs
 replace hs2:=hid hs2
 obtain ⟨xl,hxl⟩:=eX (leastOf x l:Rat)
 obtain ⟨xg,hxg⟩:=eX (greatestOf x l:Rat)
 rw [←hxl,←hxg]
 replace hxl:=hid hxl
 replace hxg:=hid hxg
 go_enter Tryz.func110,Tryz.ntmps110
 go_upto_region 1 with fail
 rw [←hwB]
 clear hwB
 go_wp2_with fail
 go_region_held3 (fun w'=>w'.cell? ⟨w.heap.size,0,none⟩=some (.bool (decide (x.num<0)))∧w'.cell? ⟨w.heap.size,1,none⟩=some (.slice A1 (len x.num.natAbs) c1)∧w'.cell? ⟨w.heap.size,2,none⟩=some (.slice A2 (len (below x.den)) c2))
   (go_keep)
   (fail)
 all_goals (rename_i hHl;clear hHl;rw [←hw1])
 all_goals clear hw1 k0 k1 k2
 · have hNl:wB.heap.size≠w.heap.size+1:=by omega
   have hNg:wB.heap.size+1≠w.heap.size+1:=by omega
   have hNe:wB.heap.size≠wB.heap.size+1:=by omega
   have HM0:Hid (BA w wB (w.heap.size+1) (wB.heap.size) (wB.heap.size+1) x x w1):=⟨HK1.out,hBw.out,⟨_,L1.out,hx'.out⟩,⟨_,L2.out,hx'.out⟩⟩
   clear L1 L2
   go_wp2_with fail
   go_loopw [13] (fun i wr=>∃ k:Nat,k≤l.length∧i=.int .i64 k∧Hid (BA w wB (w.heap.size+1) (wB.heap.size) (wB.heap.size+1) (leastOf x (l.take k)) (greatestOf x (l.take k)) wr)) (fun i _=>l.length - (intOf i).toNat)
   case atStart=>exact ⟨0,Nat.zero_le _,rfl,HM0⟩
   case round =>
     clear HM0
     obtain ⟨k,hk,rfl,hM⟩:=hrel
     rcases Nat.lt_or_ge k l.length with hlt | hge
     · obtain ⟨q,hq⟩:∃ q,l[k]?=some q:=⟨_,List.getElem?_eq_getElem hlt⟩
       obtain ⟨⟨s1,B1,m1,d1,B2,m2,d2⟩,e0,e1,e2,his⟩:=hl.out k q hq
       have hqs:Hid (Aa' q≤34359738368):=hs2.out q (List.mem_of_getElem? hq)
       obtain ⟨m,hm⟩:=eX (leastOf x (l.take k))
       obtain ⟨M,hMM⟩:=eX (greatestOf x (l.take k))
       have hms:Hid (Aa' m≤34359738368):=by show _≤_;rw [hm];exact BU' hs.out hs2.out k
       have hMs:Hid (Aa' M≤34359738368):=by show _≤_;rw [hMM];exact Bu hs.out hs2.out k
       rw [←hm,←hMM] at hM
       have hst:=BK (x:=x) hq
       have hgt:=Bn (x:=x) hq
       rw [←hm] at hst
       rw [←hMM] at hgt
       replace hst:=hid hst
       replace hgt:=hid hgt
       have hb:=hM.out.2.1
       have z0:wr.cell? ⟨b,o+k*3,none⟩=some (.bool s1):=(hb.cell (p:=⟨b,o+k*3,none⟩) (bL w _ e0)).trans e0
       have z1:wr.cell? ⟨b,o+k*3+1,none⟩=some (.slice B1 m1 d1):=(hb.cell (p:=⟨b,o+k*3+1,none⟩) (bL w _ e1)).trans e1
       have z2:wr.cell? ⟨b,o+k*3+2,none⟩=some (.slice B2 m2 d2):=(hb.cell (p:=⟨b,o+k*3+2,none⟩) (bL w _ e2)).trans e2
       replace his:=hid his
       clear e0 e1 e2 hq hm hMM hb
       go_upto_region 5 with fail
       obtain ⟨w2,hw2⟩:=eX (wr.alloc (.cells #[.bool s1,.slice B1 m1 d1,.slice B2 m2 d2] 35))
       have b2:Below wr.heap.size wr w2:=by rw [hw2];exact (Below.refl _ _).alloc (nL _) _
       have Lx:AR w2 wr.heap.size ⟨s1,B1,m1,d1,B2,m2,d2⟩:=by rw [hw2];exact hA_ wr _
       rw [←hw2]
       clear hw2 z0 z1 z2
       obtain ⟨-,-,⟨_,Ll0,-⟩,_,Lg0,-⟩:=id hM.out
       have hxl1:wr.heap.size≠wB.heap.size:=by have:=Ll0.lt;omega
       have hxg1:wr.heap.size≠wB.heap.size+1:=by have:=Lg0.lt;omega
       clear Ll0 Lg0
       have hM2:=hid (hM.out.call b2)
       obtain ⟨-,hb2,⟨⟨s3,D1,e1,f1,D2,e2,f2⟩,Ll,pl⟩,-⟩:=id hM2.out
       have x0:=Lx.c0
       have x1:=Lx.c1'
       have x2:=Lx.c2'
       have y0:=Ll.c0
       have y1:=Ll.c1'
       have y2:=Ll.c2'
       have HC:=hid (A6' (Ac'.keep his.out hb2) (Ac'.keep pl hb2) hqs.out hms.out)
       obtain ⟨cc,hcc⟩:=eX (cmpQ q m:Int)
       change Hid (Calls _ _ _ _ (AW' w2 (cmpQ q m))) at HC
       rw [←hcc] at HC
       replace Lx:=hid Lx
       replace Ll:=hid Ll
       replace hcc:=hid hcc
       clear hb2 pl b2 hM
       rcases Decidable.em (q<m) with hqm | hqm
       · have hd:decide (cc<0)=true:=dT_ (by rw [hcc.out,cmpQ_lt0];exact hqm)
         rw [if_pos hqm] at hst
         replace hqm:=hid hqm
         go_wp2_with fail
         refine (HC.out).mono ?_
         rintro e w3 ⟨rfl,b3⟩
         have hM3:=hid (hM2.out.call b3)
         have Lx3:=hid (Lx.out.call b3)
         have Ll3:=hid (Ll.out.call b3)
         have p0:=Lx3.out.c0
         have p1:=Lx3.out.c1'
         have p2:=Lx3.out.c2'
         have q0:=Ll3.out.c0
         have q1:=Ll3.out.c1'
         have q2:=Ll3.out.c2'
         have F0:=Ll3.out.fr 0
         have F1:=Ll3.out.fr 1
         have F2:=Ll3.out.fr 2
         clear HC Lx Ll hM2 b3 x0 x1 x2 y0 y1 y2
         go_upto_region 7 with fail
         obtain ⟨w4,hw4⟩:=eX (((w3.setCell ⟨wB.heap.size,0,none⟩ (.bool s1)).setCell ⟨wB.heap.size,1,none⟩ (.slice B1 m1 d1)).setCell ⟨wB.heap.size,2,none⟩ (.slice B2 m2 d2))
         have hw4':w4=Go.Proofs.YtflopjfnppolgaaGreatDoor.BR' w3 (wB.heap.size) ⟨s1,B1,m1,d1,B2,m2,d2⟩:=hw4
         have hM4:Hid (BA w wB (w.heap.size+1) (wB.heap.size) (wB.heap.size+1) q M w4):=by rw [hw4'];exact hM3.out.putl his.out (by omega) (by omega) (by omega)
         have Lx4:Hid (AR w4 wr.heap.size ⟨s1,B1,m1,d1,B2,m2,d2⟩):=by rw [hw4'];exact Lx3.out.put3o hxl1
         rw [←hw4]
         clear hw4 hw4' hM3 Lx3 Ll3 F0 F1 F2 q0 q1 q2 p0 p1 p2 hd hcc
         obtain ⟨-,hb4,-,⟨s4,D3,e3,f3,D4,e4,f4⟩,Lg,pg⟩:=id hM4.out
         have x0:=Lx4.out.c0
         have x1:=Lx4.out.c1'
         have x2:=Lx4.out.c2'
         have y0:=Lg.c0
         have y1:=Lg.c1'
         have y2:=Lg.c2'
         have HC:=hid (A6' (Ac'.keep his.out hb4) (Ac'.keep pg hb4) hqs.out hMs.out)
         obtain ⟨cc,hcc⟩:=eX (cmpQ q M:Int)
         change Hid (Calls _ _ _ _ (AW' w4 (cmpQ q M))) at HC
         rw [←hcc] at HC
         replace Lg:=hid Lg
         replace hcc:=hid hcc
         clear hb4 pg
         rcases Decidable.em (M<q) with hqM | hqM
         · have hd:decide (cc>0)=true:=dT_ (by rw [hcc.out,Bb];exact hqM)
           rw [if_pos hqM] at hgt
           replace hqM:=hid hqM
           go_wp2_with fail
           refine (HC.out).mono ?_
           rintro e w5 ⟨rfl,b5⟩
           have hM5:=hid (hM4.out.call b5)
           have Lx5:=hid (Lx4.out.call b5)
           have Lg5:=hid (Lg.out.call b5)
           have p0:=Lx5.out.c0
           have p1:=Lx5.out.c1'
           have p2:=Lx5.out.c2'
           have q0:=Lg5.out.c0
           have q1:=Lg5.out.c1'
           have q2:=Lg5.out.c2'
           have F0:=Lg5.out.fr 0
           have F1:=Lg5.out.fr 1
           have F2:=Lg5.out.fr 2
           clear HC Lx4 Lg hM4 b5 x0 x1 x2 y0 y1 y2
           go_wp2_with fail
           go_roundw
           case rel =>
             have hfin:BA w wB (w.heap.size+1) (wB.heap.size) (wB.heap.size+1) q q (Go.Proofs.YtflopjfnppolgaaGreatDoor.BR' w5 (wB.heap.size+1) ⟨s1,B1,m1,d1,B2,m2,d2⟩):=BA.putg hM5.out his.out (by omega) (by omega) (by omega)
             unfold Go.Proofs.YtflopjfnppolgaaGreatDoor.BR' at hfin
             refine ⟨k+1,by omega,by simp,?_⟩
             rw [hst.out,hgt.out]
             exact hfin
           case measure=>simp [intOf];omega
         · have hd:decide (cc>0)=false:=dF_ (by rw [hcc.out,Bb];exact hqM)
           rw [if_neg hqM] at hgt
           replace hqM:=hid hqM
           go_wp2_with fail
           refine (HC.out).mono ?_
           rintro e w5 ⟨rfl,b5⟩
           have hM5:=hid (hM4.out.call b5)
           have Lx5:=hid (Lx4.out.call b5)
           have Lg5:=hid (Lg.out.call b5)
           have p0:=Lx5.out.c0
           have p1:=Lx5.out.c1'
           have p2:=Lx5.out.c2'
           clear HC Lx4 Lg hM4 b5 x0 x1 x2 y0 y1 y2
           go_wp2_with fail
           go_roundw
           case rel=>exact ⟨k+1,by omega,by simp,by rw [hst.out,hgt.out];exact hM5.out⟩
           case measure=>simp [intOf];omega
       · have hd:decide (cc<0)=false:=dF_ (by rw [hcc.out,cmpQ_lt0];exact hqm)
         rw [if_neg hqm] at hst
         replace hqm:=hid hqm
         go_wp2_with fail
         refine (HC.out).mono ?_
         rintro e w3 ⟨rfl,b3⟩
         have hM3:=hid (hM2.out.call b3)
         have Lx3:=hid (Lx.out.call b3)
         have Ll3:=hid (Ll.out.call b3)
         have p0:=Lx3.out.c0
         have p1:=Lx3.out.c1'
         have p2:=Lx3.out.c2'
         clear HC Lx Ll hM2 b3 x0 x1 x2 y0 y1 y2
         go_upto_region 7 with fail
         obtain ⟨w4,hw4⟩:=eX w3
         have hM4:Hid (BA w wB (w.heap.size+1) (wB.heap.size) (wB.heap.size+1) m M w4):=by rw [hw4];exact hM3.out
         have Lx4:Hid (AR w4 wr.heap.size ⟨s1,B1,m1,d1,B2,m2,d2⟩):=by rw [hw4];exact Lx3.out
         rw [←hw4]
         clear hw4 hM3 Lx3 Ll3 p0 p1 p2 hd hcc
         obtain ⟨-,hb4,-,⟨s4,D3,e3,f3,D4,e4,f4⟩,Lg,pg⟩:=id hM4.out
         have x0:=Lx4.out.c0
         have x1:=Lx4.out.c1'
         have x2:=Lx4.out.c2'
         have y0:=Lg.c0
         have y1:=Lg.c1'
         have y2:=Lg.c2'
         have HC:=hid (A6' (Ac'.keep his.out hb4) (Ac'.keep pg hb4) hqs.out hMs.out)
         obtain ⟨cc,hcc⟩:=eX (cmpQ q M:Int)
         change Hid (Calls _ _ _ _ (AW' w4 (cmpQ q M))) at HC
         rw [←hcc] at HC
         replace Lg:=hid Lg
         replace hcc:=hid hcc
         clear hb4 pg
         rcases Decidable.em (M<q) with hqM | hqM
         · have hd:decide (cc>0)=true:=dT_ (by rw [hcc.out,Bb];exact hqM)
           rw [if_pos hqM] at hgt
           replace hqM:=hid hqM
           go_wp2_with fail
           refine (HC.out).mono ?_
           rintro e w5 ⟨rfl,b5⟩
           have hM5:=hid (hM4.out.call b5)
           have Lx5:=hid (Lx4.out.call b5)
           have Lg5:=hid (Lg.out.call b5)
           have p0:=Lx5.out.c0
           have p1:=Lx5.out.c1'
           have p2:=Lx5.out.c2'
           have q0:=Lg5.out.c0
           have q1:=Lg5.out.c1'
           have q2:=Lg5.out.c2'
           have F0:=Lg5.out.fr 0
           have F1:=Lg5.out.fr 1
           have F2:=Lg5.out.fr 2
           clear HC Lx4 Lg hM4 b5 x0 x1 x2 y0 y1 y2
           go_wp2_with fail
           go_roundw
           case rel =>
             have hfin:BA w wB (w.heap.size+1) (wB.heap.size) (wB.heap.size+1) m q (Go.Proofs.YtflopjfnppolgaaGreatDoor.BR' w5 (wB.heap.size+1) ⟨s1,B1,m1,d1,B2,m2,d2⟩):=BA.putg hM5.out his.out (by omega) (by omega) (by omega)
             unfold Go.Proofs.YtflopjfnppolgaaGreatDoor.BR' at hfin
             refine ⟨k+1,by omega,by simp,?_⟩
             rw [hst.out,hgt.out]
             exact hfin
           case measure=>simp [intOf];omega
         · have hd:decide (cc>0)=false:=dF_ (by rw [hcc.out,Bb];exact hqM)
           rw [if_neg hqM] at hgt
           replace hqM:=hid hqM
           go_wp2_with fail
           refine (HC.out).mono ?_
           rintro e w5 ⟨rfl,b5⟩
           have hM5:=hid (hM4.out.call b5)
           have Lx5:=hid (Lx4.out.call b5)
           have Lg5:=hid (Lg.out.call b5)
           have p0:=Lx5.out.c0
           have p1:=Lx5.out.c1'
           have p2:=Lx5.out.c2'
           clear HC Lx4 Lg hM4 b5 x0 x1 x2 y0 y1 y2
           go_wp2_with fail
           go_roundw
           case rel=>exact ⟨k+1,by omega,by simp,by rw [hst.out,hgt.out];exact hM5.out⟩
           case measure=>simp [intOf];omega
     · have hkl:k=l.length:=by omega
       subst hkl
       rw [List.take_length,←hxl.out,←hxg.out] at hM
       obtain ⟨hK,hb,⟨⟨s1,A1,n1,c1,A2,n2,c2⟩,Ll,pl⟩,⟨⟨s2,A3,n3,c3,A4,n4,c4⟩,Lg,pg⟩⟩:=id hM.out
       have hsl:=BU' hs.out hs2.out l.length
       have hsg:=Bu hs.out hs2.out l.length
       rw [List.take_length,←hxl.out] at hsl
       rw [List.take_length,←hxg.out] at hsg
       have hpl:=Ac'.keep pl hb
       have hpg:=Ac'.keep pg hb
       have HXl:=fun (w':World) (hk:Ax' wB (w.heap.size+1) wr w')=>hid (AU' (hk.stay.num hpl) (nT hsl (by omega)))
       have HXg:=fun (w':World) (hk:Ax' wB (w.heap.size+1) wr w')=>hid (AU' (hk.stay.num hpg) (nT hsg (by omega)))
       have H0:=hK.begin6.locs Ll.drew Lg.drew
       have H0':=H0
       unfold Bj at H0'
       clear hK hb Ll pl Lg pg hsl hsg hM hpl hpg hl hs hs2 hxl hxg
       go_wp2_with fail
       go_region_held3 (fun w'=>(w'.cell? ⟨wB.heap.size,0,none⟩=some (.bool s1)∧w'.cell? ⟨wB.heap.size,1,none⟩=some (.slice A1 n1 c1)∧w'.cell? ⟨wB.heap.size,2,none⟩=some (.slice A2 n2 c2))∧(w'.cell? ⟨wB.heap.size+1,0,none⟩=some (.bool s2)∧w'.cell? ⟨wB.heap.size+1,1,none⟩=some (.slice A3 n3 c3)∧w'.cell? ⟨wB.heap.size+1,2,none⟩=some (.slice A4 n4 c4))∧(AR w' (wB.heap.size) ⟨s1,A1,n1,c1,A2,n2,c2⟩∧AR w' (wB.heap.size+1) ⟨s2,A3,n3,c3,A4,n4,c4⟩)∧(∀ b o,b<w.heap.size+1→w'.cell? ⟨b,o,none⟩=wB.cell? ⟨b,o,none⟩)∧w'.cell? ⟨w.heap.size+1,0,none⟩=some (cur w' ⟨w.heap.size+1,0,none⟩)∧w'.cell? ⟨w.heap.size+1,1,none⟩=some (cur w' ⟨w.heap.size+1,1,none⟩)∧w'.cell? ⟨w.heap.size+1,2,none⟩=some (cur w' ⟨w.heap.size+1,2,none⟩)∧w'.cell? ⟨w.heap.size+1,3,none⟩=some (cur w' ⟨w.heap.size+1,3,none⟩)∧w'.cell? ⟨w.heap.size+1,4,none⟩=some (cur w' ⟨w.heap.size+1,4,none⟩)∧w'.cell? ⟨w.heap.size+1,5,none⟩=some (cur w' ⟨w.heap.size+1,5,none⟩)∧w'.frozen? ⟨w.heap.size+1,0,none⟩=false∧w'.frozen? ⟨w.heap.size+1,1,none⟩=false∧w'.frozen? ⟨w.heap.size+1,2,none⟩=false∧w'.frozen? ⟨w.heap.size+1,3,none⟩=false∧w'.frozen? ⟨w.heap.size+1,4,none⟩=false∧w'.frozen? ⟨w.heap.size+1,5,none⟩=false∧Aq' 6 37 wB (w.heap.size+1) w'∧An' wr w')
         (first | with_reducible exact H0' | with_reducible exact hk1' | with_reducible exact hk2' | exact hk2.store hNl hNg)
         (first | (go_at_call 58;refine ((HXg _ hk1.held).out).mono ?_;rintro e w2 ⟨v2,rfl,hv2,hbl2⟩;obtain ⟨C7,j7,C8,j8,rfl,-,-⟩:=id hv2.opened;have hk2:=hk1.call hbl2;have hk2':=hk2;unfold Bj at hk2') | (go_at_call 58;refine ((HXl _ H0.held).out).mono ?_;rintro e w1 ⟨v1,rfl,hv1,hbl1⟩;obtain ⟨C5,j5,C6,j6,rfl,-,-⟩:=id hv1.opened;have hk1:=H0.call hbl1;have hk1':=hk1;unfold Bj at hk1'))
       rename_i hHl
       clear hHl
       have hv1':=hv1.keep hbl2
       have HD:=hk2.held.done (p:=xl) (q:=xg) (s1:=decide (xl.num<0)) (A1:=C5) (n1:=len xl.num.natAbs) (c1:=j5) (A2:=C6) (n2:=len (below xl.den)) (c2:=j6) (s2:=decide (xg.num<0)) (A3:=C7) (n3:=len xg.num.natAbs) (c3:=j7) (A4:=C8) (n4:=len (below xg.den)) (c4:=j8) (hv1') (hv2)
       obtain ⟨d1,d2,d3⟩:=HD
       obtain ⟨r0,r1,r2,r3,r4,r5⟩:=Aj d3
       have HD:=hid (And.intro d1 d2)
       clear d1 d2 d3
       go_wp2_with fail
       refine bP (v:=.agg #[.bool (decide (xl.num<0)),.slice (C5) (len xl.num.natAbs) (j5),.slice (C6) (len (below xl.den)) (j6),.bool (decide (xg.num<0)),.slice (C7) (len xg.num.natAbs) (j7),.slice (C8) (len (below xg.den)) (j8)]) ?_ rfl ⟨_,rfl,HD.out.1,Ak' HB0.out (by omega) HD.out.2⟩
       simp [results,Tryz.results110,go_sem,r0,r1,r2,r3,r4,r5]
 · have hNl:wB.heap.size+1≠w.heap.size+1:=by omega
   have hNg:wB.heap.size≠w.heap.size+1:=by omega
   have hNe:wB.heap.size+1≠wB.heap.size:=by omega
   have HM0:Hid (BA w wB (w.heap.size+1) (wB.heap.size+1) (wB.heap.size) x x w1):=⟨HK1.out,hBw.out,⟨_,L2.out,hx'.out⟩,⟨_,L1.out,hx'.out⟩⟩
   clear L1 L2
   go_wp2_with fail
   go_loopw [13] (fun i wr=>∃ k:Nat,k≤l.length∧i=.int .i64 k∧Hid (BA w wB (w.heap.size+1) (wB.heap.size+1) (wB.heap.size) (leastOf x (l.take k)) (greatestOf x (l.take k)) wr)) (fun i _=>l.length - (intOf i).toNat)
   case atStart=>exact ⟨0,Nat.zero_le _,rfl,HM0⟩
   case round =>
     clear HM0
     obtain ⟨k,hk,rfl,hM⟩:=hrel
     rcases Nat.lt_or_ge k l.length with hlt | hge
     · obtain ⟨q,hq⟩:∃ q,l[k]?=some q:=⟨_,List.getElem?_eq_getElem hlt⟩
       obtain ⟨⟨s1,B1,m1,d1,B2,m2,d2⟩,e0,e1,e2,his⟩:=hl.out k q hq
       have hqs:Hid (Aa' q≤34359738368):=hs2.out q (List.mem_of_getElem? hq)
       obtain ⟨m,hm⟩:=eX (leastOf x (l.take k))
       obtain ⟨M,hMM⟩:=eX (greatestOf x (l.take k))
       have hms:Hid (Aa' m≤34359738368):=by show _≤_;rw [hm];exact BU' hs.out hs2.out k
       have hMs:Hid (Aa' M≤34359738368):=by show _≤_;rw [hMM];exact Bu hs.out hs2.out k
       rw [←hm,←hMM] at hM
       have hst:=BK (x:=x) hq
       have hgt:=Bn (x:=x) hq
       rw [←hm] at hst
       rw [←hMM] at hgt
       replace hst:=hid hst
       replace hgt:=hid hgt
       have hb:=hM.out.2.1
       have z0:wr.cell? ⟨b,o+k*3,none⟩=some (.bool s1):=(hb.cell (p:=⟨b,o+k*3,none⟩) (bL w _ e0)).trans e0
       have z1:wr.cell? ⟨b,o+k*3+1,none⟩=some (.slice B1 m1 d1):=(hb.cell (p:=⟨b,o+k*3+1,none⟩) (bL w _ e1)).trans e1
       have z2:wr.cell? ⟨b,o+k*3+2,none⟩=some (.slice B2 m2 d2):=(hb.cell (p:=⟨b,o+k*3+2,none⟩) (bL w _ e2)).trans e2
       replace his:=hid his
       clear e0 e1 e2 hq hm hMM hb
       go_upto_region 5 with fail
       obtain ⟨w2,hw2⟩:=eX (wr.alloc (.cells #[.bool s1,.slice B1 m1 d1,.slice B2 m2 d2] 35))
       have b2:Below wr.heap.size wr w2:=by rw [hw2];exact (Below.refl _ _).alloc (nL _) _
       have Lx:AR w2 wr.heap.size ⟨s1,B1,m1,d1,B2,m2,d2⟩:=by rw [hw2];exact hA_ wr _
       rw [←hw2]
       clear hw2 z0 z1 z2
       obtain ⟨-,-,⟨_,Ll0,-⟩,_,Lg0,-⟩:=id hM.out
       have hxl1:wr.heap.size≠wB.heap.size+1:=by have:=Ll0.lt;omega
       have hxg1:wr.heap.size≠wB.heap.size:=by have:=Lg0.lt;omega
       clear Ll0 Lg0
       have hM2:=hid (hM.out.call b2)
       obtain ⟨-,hb2,⟨⟨s3,D1,e1,f1,D2,e2,f2⟩,Ll,pl⟩,-⟩:=id hM2.out
       have x0:=Lx.c0
       have x1:=Lx.c1'
       have x2:=Lx.c2'
       have y0:=Ll.c0
       have y1:=Ll.c1'
       have y2:=Ll.c2'
       have HC:=hid (A6' (Ac'.keep his.out hb2) (Ac'.keep pl hb2) hqs.out hms.out)
       obtain ⟨cc,hcc⟩:=eX (cmpQ q m:Int)
       change Hid (Calls _ _ _ _ (AW' w2 (cmpQ q m))) at HC
       rw [←hcc] at HC
       replace Lx:=hid Lx
       replace Ll:=hid Ll
       replace hcc:=hid hcc
       clear hb2 pl b2 hM
       rcases Decidable.em (q<m) with hqm | hqm
       · have hd:decide (cc<0)=true:=dT_ (by rw [hcc.out,cmpQ_lt0];exact hqm)
         rw [if_pos hqm] at hst
         replace hqm:=hid hqm
         go_wp2_with fail
         refine (HC.out).mono ?_
         rintro e w3 ⟨rfl,b3⟩
         have hM3:=hid (hM2.out.call b3)
         have Lx3:=hid (Lx.out.call b3)
         have Ll3:=hid (Ll.out.call b3)
         have p0:=Lx3.out.c0
         have p1:=Lx3.out.c1'
         have p2:=Lx3.out.c2'
         have q0:=Ll3.out.c0
         have q1:=Ll3.out.c1'
         have q2:=Ll3.out.c2'
         have F0:=Ll3.out.fr 0
         have F1:=Ll3.out.fr 1
         have F2:=Ll3.out.fr 2
         clear HC Lx Ll hM2 b3 x0 x1 x2 y0 y1 y2
         go_upto_region 7 with fail
         obtain ⟨w4,hw4⟩:=eX (((w3.setCell ⟨wB.heap.size+1,0,none⟩ (.bool s1)).setCell ⟨wB.heap.size+1,1,none⟩ (.slice B1 m1 d1)).setCell ⟨wB.heap.size+1,2,none⟩ (.slice B2 m2 d2))
         have hw4':w4=Go.Proofs.YtflopjfnppolgaaGreatDoor.BR' w3 (wB.heap.size+1) ⟨s1,B1,m1,d1,B2,m2,d2⟩:=hw4
         have hM4:Hid (BA w wB (w.heap.size+1) (wB.heap.size+1) (wB.heap.size) q M w4):=by rw [hw4'];exact hM3.out.putl his.out (by omega) (by omega) (by omega)
         have Lx4:Hid (AR w4 wr.heap.size ⟨s1,B1,m1,d1,B2,m2,d2⟩):=by rw [hw4'];exact Lx3.out.put3o hxl1
         rw [←hw4]
         clear hw4 hw4' hM3 Lx3 Ll3 F0 F1 F2 q0 q1 q2 p0 p1 p2 hd hcc
         obtain ⟨-,hb4,-,⟨s4,D3,e3,f3,D4,e4,f4⟩,Lg,pg⟩:=id hM4.out
         have x0:=Lx4.out.c0
         have x1:=Lx4.out.c1'
         have x2:=Lx4.out.c2'
         have y0:=Lg.c0
         have y1:=Lg.c1'
         have y2:=Lg.c2'
         have HC:=hid (A6' (Ac'.keep his.out hb4) (Ac'.keep pg hb4) hqs.out hMs.out)
         obtain ⟨cc,hcc⟩:=eX (cmpQ q M:Int)
         change Hid (Calls _ _ _ _ (AW' w4 (cmpQ q M))) at HC
         rw [←hcc] at HC
         replace Lg:=hid Lg
         replace hcc:=hid hcc
         clear hb4 pg
         rcases Decidable.em (M<q) with hqM | hqM
         · have hd:decide (cc>0)=true:=dT_ (by rw [hcc.out,Bb];exact hqM)
           rw [if_pos hqM] at hgt
           replace hqM:=hid hqM
           go_wp2_with fail
           refine (HC.out).mono ?_
           rintro e w5 ⟨rfl,b5⟩
           have hM5:=hid (hM4.out.call b5)
           have Lx5:=hid (Lx4.out.call b5)
           have Lg5:=hid (Lg.out.call b5)
           have p0:=Lx5.out.c0
           have p1:=Lx5.out.c1'
           have p2:=Lx5.out.c2'
           have q0:=Lg5.out.c0
           have q1:=Lg5.out.c1'
           have q2:=Lg5.out.c2'
           have F0:=Lg5.out.fr 0
           have F1:=Lg5.out.fr 1
           have F2:=Lg5.out.fr 2
           clear HC Lx4 Lg hM4 b5 x0 x1 x2 y0 y1 y2
           go_wp2_with fail
           go_roundw
           case rel =>
             have hfin:BA w wB (w.heap.size+1) (wB.heap.size+1) (wB.heap.size) q q (Go.Proofs.YtflopjfnppolgaaGreatDoor.BR' w5 (wB.heap.size) ⟨s1,B1,m1,d1,B2,m2,d2⟩):=BA.putg hM5.out his.out (by omega) (by omega) (by omega)
             unfold Go.Proofs.YtflopjfnppolgaaGreatDoor.BR' at hfin
             refine ⟨k+1,by omega,by simp,?_⟩
             rw [hst.out,hgt.out]
             exact hfin
           case measure=>simp [intOf];omega
         · have hd:decide (cc>0)=false:=dF_ (by rw [hcc.out,Bb];exact hqM)
           rw [if_neg hqM] at hgt
           replace hqM:=hid hqM
           go_wp2_with fail
           refine (HC.out).mono ?_
           rintro e w5 ⟨rfl,b5⟩
           have hM5:=hid (hM4.out.call b5)
           have Lx5:=hid (Lx4.out.call b5)
           have Lg5:=hid (Lg.out.call b5)
           have p0:=Lx5.out.c0
           have p1:=Lx5.out.c1'
           have p2:=Lx5.out.c2'
           clear HC Lx4 Lg hM4 b5 x0 x1 x2 y0 y1 y2
           go_wp2_with fail
           go_roundw
           case rel=>exact ⟨k+1,by omega,by simp,by rw [hst.out,hgt.out];exact hM5.out⟩
           case measure=>simp [intOf];omega
       · have hd:decide (cc<0)=false:=dF_ (by rw [hcc.out,cmpQ_lt0];exact hqm)
         rw [if_neg hqm] at hst
         replace hqm:=hid hqm
         go_wp2_with fail
         refine (HC.out).mono ?_
         rintro e w3 ⟨rfl,b3⟩
         have hM3:=hid (hM2.out.call b3)
         have Lx3:=hid (Lx.out.call b3)
         have Ll3:=hid (Ll.out.call b3)
         have p0:=Lx3.out.c0
         have p1:=Lx3.out.c1'
         have p2:=Lx3.out.c2'
         clear HC Lx Ll hM2 b3 x0 x1 x2 y0 y1 y2
         go_upto_region 7 with fail
         obtain ⟨w4,hw4⟩:=eX w3
         have hM4:Hid (BA w wB (w.heap.size+1) (wB.heap.size+1) (wB.heap.size) m M w4):=by rw [hw4];exact hM3.out
         have Lx4:Hid (AR w4 wr.heap.size ⟨s1,B1,m1,d1,B2,m2,d2⟩):=by rw [hw4];exact Lx3.out
         rw [←hw4]
         clear hw4 hM3 Lx3 Ll3 p0 p1 p2 hd hcc
         obtain ⟨-,hb4,-,⟨s4,D3,e3,f3,D4,e4,f4⟩,Lg,pg⟩:=id hM4.out
         have x0:=Lx4.out.c0
         have x1:=Lx4.out.c1'
         have x2:=Lx4.out.c2'
         have y0:=Lg.c0
         have y1:=Lg.c1'
         have y2:=Lg.c2'
         have HC:=hid (A6' (Ac'.keep his.out hb4) (Ac'.keep pg hb4) hqs.out hMs.out)
         obtain ⟨cc,hcc⟩:=eX (cmpQ q M:Int)
         change Hid (Calls _ _ _ _ (AW' w4 (cmpQ q M))) at HC
         rw [←hcc] at HC
         replace Lg:=hid Lg
         replace hcc:=hid hcc
         clear hb4 pg
         rcases Decidable.em (M<q) with hqM | hqM
         · have hd:decide (cc>0)=true:=dT_ (by rw [hcc.out,Bb];exact hqM)
           rw [if_pos hqM] at hgt
           replace hqM:=hid hqM
           go_wp2_with fail
           refine (HC.out).mono ?_
           rintro e w5 ⟨rfl,b5⟩
           have hM5:=hid (hM4.out.call b5)
           have Lx5:=hid (Lx4.out.call b5)
           have Lg5:=hid (Lg.out.call b5)
           have p0:=Lx5.out.c0
           have p1:=Lx5.out.c1'
           have p2:=Lx5.out.c2'
           have q0:=Lg5.out.c0
           have q1:=Lg5.out.c1'
           have q2:=Lg5.out.c2'
           have F0:=Lg5.out.fr 0
           have F1:=Lg5.out.fr 1
           have F2:=Lg5.out.fr 2
           clear HC Lx4 Lg hM4 b5 x0 x1 x2 y0 y1 y2
           go_wp2_with fail
           go_roundw
           case rel =>
             have hfin:BA w wB (w.heap.size+1) (wB.heap.size+1) (wB.heap.size) m q (Go.Proofs.YtflopjfnppolgaaGreatDoor.BR' w5 (wB.heap.size) ⟨s1,B1,m1,d1,B2,m2,d2⟩):=BA.putg hM5.out his.out (by omega) (by omega) (by omega)
             unfold Go.Proofs.YtflopjfnppolgaaGreatDoor.BR' at hfin
             refine ⟨k+1,by omega,by simp,?_⟩
             rw [hst.out,hgt.out]
             exact hfin
           case measure=>simp [intOf];omega
         · have hd:decide (cc>0)=false:=dF_ (by rw [hcc.out,Bb];exact hqM)
           rw [if_neg hqM] at hgt
           replace hqM:=hid hqM
           go_wp2_with fail
           refine (HC.out).mono ?_
           rintro e w5 ⟨rfl,b5⟩
           have hM5:=hid (hM4.out.call b5)
           have Lx5:=hid (Lx4.out.call b5)
           have Lg5:=hid (Lg.out.call b5)
           have p0:=Lx5.out.c0
           have p1:=Lx5.out.c1'
           have p2:=Lx5.out.c2'
           clear HC Lx4 Lg hM4 b5 x0 x1 x2 y0 y1 y2
           go_wp2_with fail
           go_roundw
           case rel=>exact ⟨k+1,by omega,by simp,by rw [hst.out,hgt.out];exact hM5.out⟩
           case measure=>simp [intOf];omega
     · have hkl:k=l.length:=by omega
       subst hkl
       rw [List.take_length,←hxl.out,←hxg.out] at hM
       obtain ⟨hK,hb,⟨⟨s1,A1,n1,c1,A2,n2,c2⟩,Ll,pl⟩,⟨⟨s2,A3,n3,c3,A4,n4,c4⟩,Lg,pg⟩⟩:=id hM.out
       have hsl:=BU' hs.out hs2.out l.length
       have hsg:=Bu hs.out hs2.out l.length
       rw [List.take_length,←hxl.out] at hsl
       rw [List.take_length,←hxg.out] at hsg
       have hpl:=Ac'.keep pl hb
       have hpg:=Ac'.keep pg hb
       have HXl:=fun (w':World) (hk:Ax' wB (w.heap.size+1) wr w')=>hid (AU' (hk.stay.num hpl) (nT hsl (by omega)))
       have HXg:=fun (w':World) (hk:Ax' wB (w.heap.size+1) wr w')=>hid (AU' (hk.stay.num hpg) (nT hsg (by omega)))
       have H0:=hK.begin6.locs Ll.drew Lg.drew
       have H0':=H0
       unfold Bj at H0'
       clear hK hb Ll pl Lg pg hsl hsg hM hpl hpg hl hs hs2 hxl hxg
       go_wp2_with fail
       go_region_held3 (fun w'=>(w'.cell? ⟨wB.heap.size+1,0,none⟩=some (.bool s1)∧w'.cell? ⟨wB.heap.size+1,1,none⟩=some (.slice A1 n1 c1)∧w'.cell? ⟨wB.heap.size+1,2,none⟩=some (.slice A2 n2 c2))∧(w'.cell? ⟨wB.heap.size,0,none⟩=some (.bool s2)∧w'.cell? ⟨wB.heap.size,1,none⟩=some (.slice A3 n3 c3)∧w'.cell? ⟨wB.heap.size,2,none⟩=some (.slice A4 n4 c4))∧(AR w' (wB.heap.size+1) ⟨s1,A1,n1,c1,A2,n2,c2⟩∧AR w' (wB.heap.size) ⟨s2,A3,n3,c3,A4,n4,c4⟩)∧(∀ b o,b<w.heap.size+1→w'.cell? ⟨b,o,none⟩=wB.cell? ⟨b,o,none⟩)∧w'.cell? ⟨w.heap.size+1,0,none⟩=some (cur w' ⟨w.heap.size+1,0,none⟩)∧w'.cell? ⟨w.heap.size+1,1,none⟩=some (cur w' ⟨w.heap.size+1,1,none⟩)∧w'.cell? ⟨w.heap.size+1,2,none⟩=some (cur w' ⟨w.heap.size+1,2,none⟩)∧w'.cell? ⟨w.heap.size+1,3,none⟩=some (cur w' ⟨w.heap.size+1,3,none⟩)∧w'.cell? ⟨w.heap.size+1,4,none⟩=some (cur w' ⟨w.heap.size+1,4,none⟩)∧w'.cell? ⟨w.heap.size+1,5,none⟩=some (cur w' ⟨w.heap.size+1,5,none⟩)∧w'.frozen? ⟨w.heap.size+1,0,none⟩=false∧w'.frozen? ⟨w.heap.size+1,1,none⟩=false∧w'.frozen? ⟨w.heap.size+1,2,none⟩=false∧w'.frozen? ⟨w.heap.size+1,3,none⟩=false∧w'.frozen? ⟨w.heap.size+1,4,none⟩=false∧w'.frozen? ⟨w.heap.size+1,5,none⟩=false∧Aq' 6 37 wB (w.heap.size+1) w'∧An' wr w')
         (first | with_reducible exact H0' | with_reducible exact hk1' | with_reducible exact hk2' | exact hk2.store hNl hNg)
         (first | (go_at_call 58;refine ((HXg _ hk1.held).out).mono ?_;rintro e w2 ⟨v2,rfl,hv2,hbl2⟩;obtain ⟨C7,j7,C8,j8,rfl,-,-⟩:=id hv2.opened;have hk2:=hk1.call hbl2;have hk2':=hk2;unfold Bj at hk2') | (go_at_call 58;refine ((HXl _ H0.held).out).mono ?_;rintro e w1 ⟨v1,rfl,hv1,hbl1⟩;obtain ⟨C5,j5,C6,j6,rfl,-,-⟩:=id hv1.opened;have hk1:=H0.call hbl1;have hk1':=hk1;unfold Bj at hk1'))
       rename_i hHl
       clear hHl
       have hv1':=hv1.keep hbl2
       have HD:=hk2.held.done (p:=xl) (q:=xg) (s1:=decide (xl.num<0)) (A1:=C5) (n1:=len xl.num.natAbs) (c1:=j5) (A2:=C6) (n2:=len (below xl.den)) (c2:=j6) (s2:=decide (xg.num<0)) (A3:=C7) (n3:=len xg.num.natAbs) (c3:=j7) (A4:=C8) (n4:=len (below xg.den)) (c4:=j8) (hv1') (hv2)
       obtain ⟨d1,d2,d3⟩:=HD
       obtain ⟨r0,r1,r2,r3,r4,r5⟩:=Aj d3
       have HD:=hid (And.intro d1 d2)
       clear d1 d2 d3
       go_wp2_with fail
       refine bP (v:=.agg #[.bool (decide (xl.num<0)),.slice (C5) (len xl.num.natAbs) (j5),.slice (C6) (len (below xl.den)) (j6),.bool (decide (xg.num<0)),.slice (C7) (len xg.num.natAbs) (j7),.slice (C8) (len (below xg.den)) (j8)]) ?_ rfl ⟨_,rfl,HD.out.1,Ak' HB0.out (by omega) HD.out.2⟩
       simp [results,Tryz.results110,go_sem,r0,r1,r2,r3,r4,r5]
theorem Gg' {w:World} {vx:Value} {x q1 q2 q3:Rat} {s1:Bool} {A1 A2:Option Addr} {n1 c1 n2 c2:Nat} {s2:Bool} {A3 A4:Option Addr} {n3 c3 n4 c4:Nat} {s3:Bool} {A5 A6:Option Addr} {n5 c5 n6 c6:Nat} (hx:Ac' w vx x) (hs:Aa' x≤34359738368) (h1:Ac' w (.agg #[.bool s1,.slice A1 n1 c1,.slice A2 n2 c2]) q1) (t1:Aa' q1≤34359738368) (h2:Ac' w (.agg #[.bool s2,.slice A3 n3 c3,.slice A4 n4 c4]) q2) (t2:Aa' q2≤34359738368) (h3:Ac' w (.agg #[.bool s3,.slice A5 n5 c5,.slice A6 n6 c6]) q3) (t3:Aa' q3≤34359738368) :
   Calls Tryz.prog 110 #[vx,.slice (some ⟨w.heap.size,0,none⟩) 3 3] (w.alloc (.cells #[.bool s1,.slice A1 n1 c1,.slice A2 n2 c2,.bool s2,.slice A3 n3 c3,.slice A4 n4 c4,.bool s3,.slice A5 n5 c5,.slice A6 n6 c6] 35)) (Bt' (w.alloc (.cells #[.bool s1,.slice A1 n1 c1,.slice A2 n2 c2,.bool s2,.slice A3 n3 c3,.slice A4 n4 c4,.bool s3,.slice A5 n5 c5,.slice A6 n6 c6] 35)) (leastOf x [q1,q2,q3]) (greatestOf x [q1,q2,q3])):=by
 have hb:Below w.heap.size w (w.alloc (.cells #[.bool s1,.slice A1 n1 c1,.slice A2 n2 c2,.bool s2,.slice A3 n3 c3,.slice A4 n4 c4,.bool s3,.slice A5 n5 c5,.slice A6 n6 c6] 35)):=(Below.refl _ _).alloc (nL _) _
 have hg:(w.alloc (.cells #[.bool s1,.slice A1 n1 c1,.slice A2 n2 c2,.bool s2,.slice A3 n3 c3,.slice A4 n4 c4,.bool s3,.slice A5 n5 c5,.slice A6 n6 c6] 35)).heap[w.heap.size]?=some (.cells #[.bool s1,.slice A1 n1 c1,.slice A2 n2 c2,.bool s2,.slice A3 n3 c3,.slice A4 n4 c4,.bool s3,.slice A5 n5 c5,.slice A6 n6 c6] 35 (0,0)):=hA_ w _
 refine HJ' (l:=[q1,q2,q3]) (hx.keep hb) ?_ (by simp) hs ?_
 · intro i q hi
   match i,hi with
   | 0,hi =>
     obtain rfl:=Option.some.inj hi
     exact ⟨⟨s1,A1,n1,c1,A2,n2,c2⟩,cR _ _ 0 _ _ _ hg,cR _ _ 1 _ _ _ hg,cR _ _ 2 _ _ _ hg,h1.keep hb⟩
   | 1,hi =>
     obtain rfl:=Option.some.inj hi
     exact ⟨⟨s2,A3,n3,c3,A4,n4,c4⟩,cR _ _ 3 _ _ _ hg,cR _ _ 4 _ _ _ hg,cR _ _ 5 _ _ _ hg,h2.keep hb⟩
   | 2,hi =>
     obtain rfl:=Option.some.inj hi
     exact ⟨⟨s3,A5,n5,c5,A6,n6,c6⟩,cR _ _ 6 _ _ _ hg,cR _ _ 7 _ _ _ hg,cR _ _ 8 _ _ _ hg,h3.keep hb⟩
   | _+3,hi=>exact absurd hi (by simp)
 · intro y hy
   simp only [List.mem_cons,List.not_mem_nil,or_false] at hy
   rcases hy with rfl | rfl | rfl
   · exact t1
   · exact t2
   · exact t3
theorem GV (a b:Int):sgn (!(decide (a<0)==decide (b<0))) a.natAbs=if b<0 then -a else a:=by
 unfold sgn
 by_cases h1:a<0 <;> by_cases h2:b<0 <;> simp [h1,h2] <;> omega
theorem Gh {w:World} {a:Int}:Calls Tryz.prog 19 #[.int .i64 a,.int .i64 0] w (BI' w 0 10):=by
 obtain ⟨wB,hwB⟩:=eX (w.alloc (.cells #[.bool false,.slice none 0 0,.slice none 0 0] 35))
 have b0:Below w.heap.size w wB:=by rw [hwB];exact (Below.refl _ _).alloc (nL _) _
 have gB:wB.heap[w.heap.size]?=some (.cells #[.bool false,.slice none 0 0,.slice none 0 0] 35 (0,0)):=by rw [hwB];exact hA_ w _
 have HK0:=hid (Aq'.start (T:=35) rfl (A1' _ _ _ _ _ _ _) gB)
 have HB0:=hid b0
 clear gB b0
 go_enter Tryz.func19,Tryz.ntmps19
 go_upto_region 2 with fail
 rw [←hwB]
 clear hwB
 have hk:=HK0.out.held (An'.refl _)
 obtain ⟨-,c0,c1',c2',f0,f1,f2,-⟩:=id hk
 have HD:=hk.done (q:=0) (b:=false) (A1:=none) (n1:=0) (c1:=0) (A2:=none) (n2:=0) (c2:=0) (Bi' _)
 obtain ⟨d1,d2,d3⟩:=HD
 obtain ⟨r0,r1,r2⟩:=Ad' d3
 have HD:=hid (And.intro d1 d2)
 clear d1 d2 d3
 go_wp2_with fail
 refine bP (v:=.tuple #[.agg #[.bool (false),.slice (none) (0) (0),.slice (none) (0) (0)],.int .i64 10]) ?_ rfl ⟨_,rfl,HD.out.1,Ak' HB0.out (nL _) HD.out.2⟩
 simp [results,Tryz.results19,go_sem,r0,r1,r2]
theorem HK' {w:World} {a b:Int} {q:Rat} (ha1 : -9223372036854775808≤a) (ha2:a≤9223372036854775807) (hb1 : -9223372036854775808≤b) (hb2:b≤9223372036854775807) (h:b≠0) (hq:mkRat (sgn (!(decide (a<0)==decide (b<0))) a.natAbs) b.natAbs=q) :
   Calls Tryz.prog 19 #[.int .i64 a,.int .i64 b] w (BI' w q 0):=by
 obtain ⟨wB,hwB⟩:=eX (w.alloc (.cells #[.bool false,.slice none 0 0,.slice none 0 0] 35))
 have b0:Below w.heap.size w wB:=by rw [hwB];exact (Below.refl _ _).alloc (nL _) _
 have gB:wB.heap[w.heap.size]?=some (.cells #[.bool false,.slice none 0 0,.slice none 0 0] 35 (0,0)):=by rw [hwB];exact hA_ w _
 have HK0:=hid (Aq'.start (T:=35) rfl (A1' _ _ _ _ _ _ _) gB)
 have HB0:=hid b0
 clear gB b0
 have hl1:len a.natAbs≤1:=AA (by rw [Nat.pow_one,BG'];omega)
 have hl2:len b.natAbs≤1:=AA (by rw [Nat.pow_one,BG'];omega)
 have HL:=hid (And.intro (nT hl1 (show 1≤1099511627776 by decide)) (And.intro (nT hl2 (show 1≤1099511627776 by decide)) (show 0<b.natAbs by omega)))
 have HA:=hid (DB' (w:=wB) a ha1 ha2)
 have HB:=fun w'=>hid (DB' (w:=w') b hb1 hb2)
 have HQ:=hid hq
 clear hl1 hl2 hq
 have hb0:(b==0)=false:=beq_eq_false_iff_ne.2 h
 go_enter Tryz.func19,Tryz.ntmps19
 go_upto_region 3 with fail
 rw [←hwB]
 clear hwB
 go_wp2_with fail
 refine (HA.out).mono ?_
 rintro e w1 ⟨v1,rfl,hv1,b1⟩
 have HB1:=HB w1
 have HK1:=hid (HK0.out.call b1)
 clear b1 HA HB
 go_wp2_with fail
 refine (HB1.out).mono ?_
 rintro e w2 ⟨v2,rfl,hv2,b2⟩
 have HK2:=hid (HK1.out.call b2)
 have HRD:=hid (Ft (neg := !(decide (a<0)==decide (b<0))) (hv1.keep b2) hv2 HL.out.2.2 HL.out.1 HL.out.2.1)
 rw [Dc',HQ.out] at HRD
 clear b2 HB1 hv1 hv2
 go_wp2_with fail
 refine (HRD.out).mono ?_
 rintro e w6 ⟨v6,rfl,hv6,b6⟩
 obtain ⟨C1,j1,C2,j2,rfl,-,-⟩:=hv6.opened
 have hk:=(HK2.out.call b6).held (An'.refl _)
 clear b6 HRD
 obtain ⟨-,c0,c1',c2',f0,f1,f2,-⟩:=id hk
 have HD:=hk.done (q:=q) (b:=decide (q.num<0)) (A1:=C1) (n1:=len q.num.natAbs) (c1:=j1) (A2:=C2) (n2:=len (below q.den)) (c2:=j2) (hv6)
 obtain ⟨d1,d2,d3⟩:=HD
 obtain ⟨r0,r1,r2⟩:=Ad' d3
 have HD:=hid (And.intro d1 d2)
 clear d1 d2 d3
 go_wp2_with fail
 refine bP (v:=.tuple #[.agg #[.bool (decide (q.num<0)),.slice (C1) (len q.num.natAbs) (j1),.slice (C2) (len (below q.den)) (j2)],.int .i64 0]) ?_ rfl ⟨_,rfl,HD.out.1,Ak' HB0.out (nL _) HD.out.2⟩
 simp [results,Tryz.results19,go_sem,r0,r1,r2]
theorem Fd' {w:World} {a b:Int} (ha1 : -9223372036854775808≤a) (ha2:a≤9223372036854775807) (hb1 : -9223372036854775808≤b) (hb2:b≤9223372036854775807) :
   Calls Tryz.prog 19 #[.int .i64 a,.int .i64 b] w (BI' w (if b=0 then 0 else mkRat (if b<0 then -a else a) b.natAbs) (if b=0 then 10 else 0)):=by
 rcases Decidable.em (b=0) with h | h
 · subst h
   exact Gh
 · rw [if_neg h,if_neg h,←GV]
   exact HK' ha1 ha2 hb1 hb2 h rfl
theorem _root_.Go.Below.step {w1 w2 w3:World} (h:Below w1.heap.size w1 w2) (k:Below w2.heap.size w2 w3):Below w1.heap.size w1 w3:=h.trans (k.mono h.size)
def DS (w:World) (b o:Nat) (l:List ByteArray):Prop:=∀ (i:Nat) (s:ByteArray),l[i]?=some s→w.cell? ⟨b,o+i,none⟩=some (.string s)
theorem Cr {w:World} {vx:Value} {x:Rat} {l:List UInt8} (hx:Ac' w vx x) (h:Bj' x=l) (hs:Aa' x≤536870912) (hT:TabAt 0 Lib.deBruijn64tab w) :
   Calls Tryz.prog 31 #[vx] w (BJ w l):=by
 rw [←h];exact EK' hx hs hT
theorem AE' {w:World} {n:Int} {q:Rat} (h1 : -9223372036854775808≤n) (h2:n≤9223372036854775807) (h:(n:Rat)=q):Calls Tryz.prog 18 #[.int .i64 n] w (Az' w q):=by
 rw [←h];exact Eu n h1 h2
end Go.Proofs.YtflopjfnppolgaaGreatDoor
