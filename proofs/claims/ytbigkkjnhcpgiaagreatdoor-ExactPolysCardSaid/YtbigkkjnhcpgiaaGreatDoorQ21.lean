/-
  Contracts of the functions that the law calls, for every input (BoxE BoxF BoxD).
-/
import Derived.Test.YtbigkkjnhcpgiaaGreatDoorQ00
import Derived.Test.YtbigkkjnhcpgiaaGreatDoorQ20
import Derived.Test.YtbigkkjnhcpgiaaGreatDoorQ11
import Derived.Test.YtbigkkjnhcpgiaaGreatDoorQ12
set_option linter.all false
set_option maxRecDepth 100000
set_option maxHeartbeats 40000000
namespace Go.Proofs.YtbigkkjnhcpgiaaGreatDoor
open Lib (hid)
open Go.RowKit
open Vx
structure Pt where
  (s:Bool) (A1:Option Addr) (n1 c1:Nat) (A2:Option Addr) (n2 c2:Nat)
def Pt.v0 (p:Pt):Value:=.bool p.s
def Pt.v1 (p:Pt):Value:=.slice p.A1 p.n1 p.c1
def Pt.v2 (p:Pt):Value:=.slice p.A2 p.n2 p.c2
def AS' (w:World) (b:Nat) (p:Pt):Prop:=w.heap[b]?=some (.cells #[p.v0,p.v1,p.v2] 33 (0,0))
def Pt.is (p:Pt) (w:World) (q:Rat):Prop:=Ac' w (.agg #[p.v0,p.v1,p.v2]) q
theorem AS'.lt {w:World} {b:Nat} {p:Pt} (h:AS' w b p):b<w.heap.size:=(gE.1 h).1
theorem AS'.call {w w':World} {b:Nat} {p:Pt} (h:AS' w b p) (hb:Below w.heap.size w w'):AS' w' b p:=(hb.block _ h.lt).trans h
theorem AS'.other {w:World} {b g i:Nat} {p:Pt} {v:Value} (h:AS' w b p) (hne:b≠g):AS' (w.setCell ⟨g,i,none⟩ v) b p:=by
 unfold AS'
 rw [heap_setCell_other _ _ _ _ hne]
 exact h
theorem AS'.c0 {w:World} {b:Nat} {p:Pt} (h:AS' w b p):w.cell? ⟨b,0,none⟩=some (.bool p.s):=cR _ _ _ _ _ _ h
theorem AS'.c1' {w:World} {b:Nat} {p:Pt} (h:AS' w b p):w.cell? ⟨b,1,none⟩=some (.slice p.A1 p.n1 p.c1):=cR _ _ _ _ _ _ h
theorem AS'.c2' {w:World} {b:Nat} {p:Pt} (h:AS' w b p):w.cell? ⟨b,2,none⟩=some (.slice p.A2 p.n2 p.c2):=cR _ _ _ _ _ _ h
theorem AS'.fr {w:World} {b:Nat} {p:Pt} (h:AS' w b p) (i:Nat):w.frozen? ⟨b,i,none⟩=false:=fR w b i _ _ h
theorem Ai'.other {n:Nat} {T:TypeId} {wB w:World} {G g i:Nat} {v:Value} (h:Ai' n T wB G w) (hlt:G<g):Ai' n T wB G (w.setCell ⟨g,i,none⟩ v):=by
 obtain ⟨h1,cs,h2,h3,h4⟩:=h
 refine ⟨h1.setCell (p:=⟨g,i,none⟩) (Nat.le_of_lt hlt) v,cs,h2,h3,?_⟩
 rw [heap_setCell_other _ _ _ _ (by show G≠g;omega)]
 exact h4
theorem Ai'.alloc {n:Nat} {T:TypeId} {wB w:World} {G:Nat} {o:Obj} (h:Ai' n T wB G w):Ai' n T wB G (w.alloc o):=h.call ((Below.refl _ _).alloc (nL _) _)
def BO' (w:World) (b:Nat) (p:Pt):World:=((w.setCell ⟨b,0,none⟩ (.bool p.s)).setCell ⟨b,1,none⟩ (.slice p.A1 p.n1 p.c1)).setCell ⟨b,2,none⟩ (.slice p.A2 p.n2 p.c2)
theorem AS'.put3 {w:World} {b:Nat} {p q:Pt} (h:AS' w b p):AS' (BO' w b q) b q:=Db rfl h _ _ _
theorem AS'.put3o {w:World} {b g:Nat} {p q:Pt} (h:AS' w b p) (hne:b≠g):AS' (Go.Proofs.YtbigkkjnhcpgiaaGreatDoor.BO' w g q) b p:=((h.other hne).other hne).other hne
theorem Ai'.put3 {n:Nat} {T:TypeId} {wB w:World} {G g:Nat} {q:Pt} (h:Ai' n T wB G w) (hlt:G<g):Ai' n T wB G (Go.Proofs.YtbigkkjnhcpgiaaGreatDoor.BO' w g q):=((h.other hlt).other hlt).other hlt
def Ba' (w:World) (b o:Nat) (l:List Rat):Prop:=∀ (i:Nat) (q:Rat),l[i]?=some q→∃ p:Pt,w.cell? ⟨b,o+i*3,none⟩=some (.bool p.s)∧w.cell? ⟨b,o+i*3+1,none⟩=some (.slice p.A1 p.n1 p.c1)∧w.cell? ⟨b,o+i*3+2,none⟩=some (.slice p.A2 p.n2 p.c2)∧p.is w q
def leastOf (x:Rat) (l:List Rat):Rat:=l.foldl (fun m y=>if y<m then y else m) x
def greatestOf (x:Rat) (l:List Rat):Rat:=l.foldl (fun m y=>if m<y then y else m) x
theorem B5' {x:Rat} {l:List Rat} {i:Nat} {q:Rat} (h:l[i]?=some q):leastOf x (l.take (i+1))=if q<leastOf x (l.take i) then q else leastOf x (l.take i):=by
 rw [List.take_add_one,h]
 simp only [Option.toList_some,leastOf,List.foldl_append,List.foldl_cons,List.foldl_nil]
 rfl
theorem BG' {x:Rat} {l:List Rat} {i:Nat} {q:Rat} (h:l[i]?=some q):greatestOf x (l.take (i+1))=if greatestOf x (l.take i)<q then q else greatestOf x (l.take i):=by
 rw [List.take_add_one,h]
 simp only [Option.toList_some,greatestOf,List.foldl_append,List.foldl_cons,List.foldl_nil]
 rfl
def BC' (w wB:World) (G bl bg:Nat) (m M:Rat) (wr:World):Prop :=
  Ai' 6 35 wB G wr∧Below w.heap.size w wr∧(∃ p:Pt,AS' wr bl p∧p.is w m)∧(∃ p:Pt,AS' wr bg p∧p.is w M)
theorem BC'.call {w wB wr wr':World} {G bl bg:Nat} {m M:Rat} (h:BC' w wB G bl bg m M wr) (hb:Below wr.heap.size wr wr'):BC' w wB G bl bg m M wr':=by
 obtain ⟨h1,h2,⟨p,h3,h4⟩,q,h5,h6⟩:=h
 exact ⟨h1.call hb,h2.trans (hb.mono h2.size),⟨p,h3.call hb,h4⟩,q,h5.call hb,h6⟩
theorem D0' {N:Nat} {w wr:World} {b:Nat} {p:Pt} (h:Below N w wr) (hb:N≤b):Below N w (Go.Proofs.YtbigkkjnhcpgiaaGreatDoor.BO' wr b p) :=
 ((h.setCell (p:=⟨b,0,none⟩) hb _).setCell (p:=⟨b,1,none⟩) hb _).setCell (p:=⟨b,2,none⟩) hb _
theorem BC'.putl {w wB wr:World} {G bl bg:Nat} {m M q:Rat} {p:Pt} (h:BC' w wB G bl bg m M wr) (hp:p.is w q) (hne:bg≠bl) (hlt:G<bl) (hw:w.heap.size≤bl):BC' w wB G bl bg q M (Go.Proofs.YtbigkkjnhcpgiaaGreatDoor.BO' wr bl p):=by
 obtain ⟨h1,h2,⟨p',h3,h4⟩,q',h5,h6⟩:=h
 exact ⟨h1.put3 hlt,D0' h2 hw,⟨p,h3.put3,hp⟩,q',h5.put3o hne,h6⟩
theorem BC'.putg {w wB wr:World} {G bl bg:Nat} {m M q:Rat} {p:Pt} (h:BC' w wB G bl bg m M wr) (hp:p.is w q) (hne:bl≠bg) (hlt:G<bg) (hw:w.heap.size≤bg):BC' w wB G bl bg m q (Go.Proofs.YtbigkkjnhcpgiaaGreatDoor.BO' wr bg p):=by
 obtain ⟨h1,h2,⟨p',h3,h4⟩,q',h5,h6⟩:=h
 exact ⟨h1.put3 hlt,D0' h2 hw,⟨p',h3.put3o hne,h4⟩,p,h5.put3,hp⟩
theorem DE (l:List Rat):∀ (x:Rat),leastOf x l=x∨leastOf x l∈l:=by
 unfold leastOf
 induction l with
 | nil=>exact fun x=>Or.inl rfl
 | cons y l ih =>
   intro x
   simp only [List.foldl_cons,List.mem_cons]
   rcases ih (if y<x then y else x) with h | h
   · rw [h];split
     · exact Or.inr (Or.inl rfl)
     · exact Or.inl rfl
   · exact Or.inr (Or.inr h)
theorem CO (l:List Rat):∀ (x:Rat),greatestOf x l=x∨greatestOf x l∈l:=by
 unfold greatestOf
 induction l with
 | nil=>exact fun x=>Or.inl rfl
 | cons y l ih =>
   intro x
   simp only [List.foldl_cons,List.mem_cons]
   rcases ih (if x<y then y else x) with h | h
   · rw [h];split
     · exact Or.inr (Or.inl rfl)
     · exact Or.inl rfl
   · exact Or.inr (Or.inr h)
theorem Bt' {x:Rat} {l:List Rat} {N:Nat} (hs:Aa' x≤N) (hs2:∀ y∈l,Aa' y≤N) (k:Nat):Aa' (leastOf x (l.take k))≤N:=by
 rcases DE (l.take k) x with h | h
 · rw [h];exact hs
 · exact hs2 _ (List.mem_of_mem_take h)
theorem A6' {x:Rat} {l:List Rat} {N:Nat} (hs:Aa' x≤N) (hs2:∀ y∈l,Aa' y≤N) (k:Nat):Aa' (greatestOf x (l.take k))≤N:=by
 rcases CO (l.take k) x with h | h
 · rw [h];exact hs
 · exact hs2 _ (List.mem_of_mem_take h)
theorem CY {x y:Rat}:cmpQ x y<0↔x<y:=by
 unfold cmpQ
 split
 · rename_i h
   exact ⟨fun _=>h,fun _=>by omega⟩
 · rename_i h
   split <;> exact ⟨fun h2=>by omega,fun h2=>absurd h2 h⟩
theorem Bu {x y:Rat}:cmpQ x y>0↔y<x:=by
 constructor
 · intro h
   rcases Decidable.em (y<x) with h3 | h3
   · exact h3
   · exact absurd h (FT (Rat.not_lt.1 h3))
 · intro h
   exact IV' (fun h2=>absurd h (Rat.not_lt.2 h2))
theorem AS'.drew {w:World} {b:Nat} {p:Pt} (h:AS' w b p):AS' w.drew b p:=h.call ⟨rfl,rfl,rfl,nL _,fun _ _=>rfl⟩
def Bl (wB:World) (G bl bg:Nat) (s1:Bool) (A1:Option Addr) (n1 c1:Nat) (A2:Option Addr) (n2 c2:Nat) (s2:Bool) (A3:Option Addr) (n3 c3:Nat) (A4:Option Addr) (n4 c4:Nat) (wS w:World):Prop :=
  (w.cell? ⟨bl,0,none⟩=some (.bool s1)∧w.cell? ⟨bl,1,none⟩=some (.slice A1 n1 c1)∧w.cell? ⟨bl,2,none⟩=some (.slice A2 n2 c2))∧(w.cell? ⟨bg,0,none⟩=some (.bool s2)∧w.cell? ⟨bg,1,none⟩=some (.slice A3 n3 c3)∧w.cell? ⟨bg,2,none⟩=some (.slice A4 n4 c4))∧(AS' w (bl) ⟨s1,A1,n1,c1,A2,n2,c2⟩∧AS' w (bg) ⟨s2,A3,n3,c3,A4,n4,c4⟩)∧(∀ b o,b<G→w.cell? ⟨b,o,none⟩=wB.cell? ⟨b,o,none⟩)∧w.cell? ⟨G,0,none⟩=some (cur w ⟨G,0,none⟩)∧w.cell? ⟨G,1,none⟩=some (cur w ⟨G,1,none⟩)∧w.cell? ⟨G,2,none⟩=some (cur w ⟨G,2,none⟩)∧w.cell? ⟨G,3,none⟩=some (cur w ⟨G,3,none⟩)∧w.cell? ⟨G,4,none⟩=some (cur w ⟨G,4,none⟩)∧w.cell? ⟨G,5,none⟩=some (cur w ⟨G,5,none⟩)∧w.frozen? ⟨G,0,none⟩=false∧w.frozen? ⟨G,1,none⟩=false∧w.frozen? ⟨G,2,none⟩=false∧w.frozen? ⟨G,3,none⟩=false∧w.frozen? ⟨G,4,none⟩=false∧w.frozen? ⟨G,5,none⟩=false∧Ai' 6 35 wB (G) w∧Aj wS w
theorem Am'.locs {wB wS w:World} {G bl bg:Nat} {s1:Bool} {A1:Option Addr} {n1 c1:Nat} {A2:Option Addr} {n2 c2:Nat} {s2:Bool} {A3:Option Addr} {n3 c3:Nat} {A4:Option Addr} {n4 c4:Nat} (h:Am' wB G wS w) (h1:AS' w bl ⟨s1,A1,n1,c1,A2,n2,c2⟩) (h2:AS' w bg ⟨s2,A3,n3,c3,A4,n4,c4⟩):Bl wB G bl bg s1 A1 n1 c1 A2 n2 c2 s2 A3 n3 c3 A4 n4 c4 wS w :=
 ⟨⟨h1.c0,h1.c1',h1.c2'⟩,⟨h2.c0,h2.c1',h2.c2'⟩,⟨h1,h2⟩,h⟩
theorem Bl.held {wB wS w:World} {G bl bg:Nat} {s1:Bool} {A1:Option Addr} {n1 c1:Nat} {A2:Option Addr} {n2 c2:Nat} {s2:Bool} {A3:Option Addr} {n3 c3:Nat} {A4:Option Addr} {n4 c4:Nat} (h:Bl wB G bl bg s1 A1 n1 c1 A2 n2 c2 s2 A3 n3 c3 A4 n4 c4 wS w):Am' wB G wS w:=by
 obtain ⟨-,-,-,h⟩:=h
 exact h
theorem Bl.call {wB wS w w':World} {G bl bg:Nat} {s1:Bool} {A1:Option Addr} {n1 c1:Nat} {A2:Option Addr} {n2 c2:Nat} {s2:Bool} {A3:Option Addr} {n3 c3:Nat} {A4:Option Addr} {n4 c4:Nat} (h:Bl wB G bl bg s1 A1 n1 c1 A2 n2 c2 s2 A3 n3 c3 A4 n4 c4 wS w) (hb:Below w.heap.size w w'):Bl wB G bl bg s1 A1 n1 c1 A2 n2 c2 s2 A3 n3 c3 A4 n4 c4 wS w':=by
 obtain ⟨-,-,⟨h1,h2⟩,h⟩:=h
 exact (Am'.call h hb).locs (h1.call hb) (h2.call hb)
theorem Bl.store {wB wS w:World} {G bl bg:Nat} {s1:Bool} {A1:Option Addr} {n1 c1:Nat} {A2:Option Addr} {n2 c2:Nat} {s2:Bool} {A3:Option Addr} {n3 c3:Nat} {A4:Option Addr} {n4 c4:Nat} {t1 t2:Bool} {E1 E2 E3 E4:Option Addr} {e1 d1 e2 d2 e3 d3 e4 d4:Nat} (h:Bl wB G bl bg s1 A1 n1 c1 A2 n2 c2 s2 A3 n3 c3 A4 n4 c4 wS w) (hl:bl≠G) (hg:bg≠G) :
   Bl wB G bl bg s1 A1 n1 c1 A2 n2 c2 s2 A3 n3 c3 A4 n4 c4 wS ((((((w.setCell ⟨G,0,none⟩ (.bool t1)).setCell ⟨G,1,none⟩ (.slice E1 e1 d1)).setCell ⟨G,2,none⟩ (.slice E2 e2 d2)).setCell ⟨G,3,none⟩ (.bool t2)).setCell ⟨G,4,none⟩ (.slice E3 e3 d3)).setCell ⟨G,5,none⟩ (.slice E4 e4 d4)):=by
 obtain ⟨-,-,⟨h1,h2⟩,h⟩:=h
 exact (Am'.store h).locs ((((((h1.other hl).other hl).other hl).other hl).other hl).other hl) ((((((h2.other hg).other hg).other hg).other hg).other hg).other hg)
theorem Ig {w:World} {vx:Value} {x:Rat} {b o c:Nat} {l:List Rat} (hx:Ac' w vx x) (hl:Ba' w b o l) (hn:l.length≤1000) (hs:Aa' x≤34359738368) (hs2:∀ y∈l,Aa' y≤34359738368) :
   Calls Tryz.prog 85 #[vx,.slice (some ⟨b,o,none⟩) l.length c] w (Bk' w (leastOf x l) (greatestOf x l)):=by
 obtain ⟨A1,c1,A2,c2,rfl,-,-⟩:=id hx.opened
 obtain ⟨wB,hwB⟩:=eX ((w.alloc (.cells #[.bool (decide (x.num<0)),.slice A1 (len x.num.natAbs) c1,.slice A2 (len (below x.den)) c2] 33)).alloc (.cells #[.bool false,.slice none 0 0,.slice none 0 0,.bool false,.slice none 0 0,.slice none 0 0] 35))
 obtain ⟨b0,g0,g1⟩:=AA' hwB
 obtain ⟨k0,k1,k2⟩:=Ab' g0
 have HK0:=hid (Ai'.start (T:=35) rfl BQ' g1)
 have HB0:=hid b0
 have hlt1:w.heap.size<w.heap.size+1:=by omega
 clear g0 g1 b0
 obtain ⟨w1,hw1⟩:=eX (((wB.alloc (.cells #[.bool (decide (x.num<0)),.slice A1 (len x.num.natAbs) c1,.slice A2 (len (below x.den)) c2] 33)).alloc (.cells #[.bool (decide (x.num<0)),.slice A1 (len x.num.natAbs) c1,.slice A2 (len (below x.den)) c2] 33)).drew)
 obtain ⟨b1,g1,g2⟩:=CV wB (.cells #[.bool (decide (x.num<0)),.slice A1 (len x.num.natAbs) c1,.slice A2 (len (below x.den)) c2] 33) (.cells #[.bool (decide (x.num<0)),.slice A1 (len x.num.natAbs) c1,.slice A2 (len (below x.den)) c2] 33)
 have L1:Hid (AS' w1 wB.heap.size ⟨decide (x.num<0),A1,len x.num.natAbs,c1,A2,len (below x.den),c2⟩):=by rw [hw1];exact g1
 have L2:Hid (AS' w1 (wB.heap.size+1) ⟨decide (x.num<0),A1,len x.num.natAbs,c1,A2,len (below x.den),c2⟩):=by rw [hw1];exact g2
 have HK1:Hid (Ai' 6 35 wB (w.heap.size+1) w1):=by rw [hw1];exact (HK0.out.call b1).drew
 have hGlt:w.heap.size+1<wB.heap.size:=HK0.out.block_lt
 have hBw:Hid (Below w.heap.size w w1):=Ae HB0.out (by omega) HK1.out.1
 have hx':Hid (Pt.is ⟨decide (x.num<0),A1,len x.num.natAbs,c1,A2,len (below x.den),c2⟩ w x):=hx
 clear b1 g1 g2 hx
 replace hl:=hid hl
 replace hs:=hid hs
 replace hs2:=hid hs2
 obtain ⟨xl,hxl⟩:=eX (leastOf x l:Rat)
 obtain ⟨xg,hxg⟩:=eX (greatestOf x l:Rat)
 rw [←hxl,←hxg]
 replace hxl:=hid hxl
 replace hxg:=hid hxg
 go_enter Tryz.func85,Tryz.ntmps85
 go_upto_region 1 with fail
 rw [←hwB]
 clear hwB
 go_wp2_with fail
 go_region_held3 (fun w'=>w'.cell? ⟨w.heap.size,0,none⟩=some (.bool (decide (x.num<0)))∧w'.cell? ⟨w.heap.size,1,none⟩=some (.slice A1 (len x.num.natAbs) c1)∧w'.cell? ⟨w.heap.size,2,none⟩=some (.slice A2 (len (below x.den)) c2))
   (go_keep)
   (fail)
 all_goals (rename_i hHl;clear hHl;rw [←hw1])
 all_goals clear hw1 k0 k1 k2
 · have hNl:wB.heap.size≠w.heap.size+1:=by omega
   have hNg:wB.heap.size+1≠w.heap.size+1:=by omega
   have hNe:wB.heap.size≠wB.heap.size+1:=by omega
   have HM0:Hid (BC' w wB (w.heap.size+1) (wB.heap.size) (wB.heap.size+1) x x w1):=⟨HK1.out,hBw.out,⟨_,L1.out,hx'.out⟩,⟨_,L2.out,hx'.out⟩⟩
   clear L1 L2
   go_wp2_with fail
   go_loopw [13] (fun i wr=>∃ k:Nat,k≤l.length∧i=.int .i64 k∧Hid (BC' w wB (w.heap.size+1) (wB.heap.size) (wB.heap.size+1) (leastOf x (l.take k)) (greatestOf x (l.take k)) wr)) (fun i _=>l.length - (intOf i).toNat)
   case atStart=>exact ⟨0,Nat.zero_le _,rfl,HM0⟩
   case round =>
     clear HM0
     obtain ⟨k,hk,rfl,hM⟩:=hrel
     rcases Nat.lt_or_ge k l.length with hlt | hge
     · obtain ⟨q,hq⟩:∃ q,l[k]?=some q:=⟨_,List.getElem?_eq_getElem hlt⟩
       obtain ⟨⟨s1,B1,m1,d1,B2,m2,d2⟩,e0,e1,e2,his⟩:=hl.out k q hq
       have hqs:Hid (Aa' q≤34359738368):=hs2.out q (List.mem_of_getElem? hq)
       obtain ⟨m,hm⟩:=eX (leastOf x (l.take k))
       obtain ⟨M,hMM⟩:=eX (greatestOf x (l.take k))
       have hms:Hid (Aa' m≤34359738368):=by show _≤_;rw [hm];exact Bt' hs.out hs2.out k
       have hMs:Hid (Aa' M≤34359738368):=by show _≤_;rw [hMM];exact A6' hs.out hs2.out k
       rw [←hm,←hMM] at hM
       have hst:=B5' (x:=x) hq
       have hgt:=BG' (x:=x) hq
       rw [←hm] at hst
       rw [←hMM] at hgt
       replace hst:=hid hst
       replace hgt:=hid hgt
       have hb:=hM.out.2.1
       have z0:wr.cell? ⟨b,o+k*3,none⟩=some (.bool s1):=(hb.cell (p:=⟨b,o+k*3,none⟩) (bL w _ e0)).trans e0
       have z1:wr.cell? ⟨b,o+k*3+1,none⟩=some (.slice B1 m1 d1):=(hb.cell (p:=⟨b,o+k*3+1,none⟩) (bL w _ e1)).trans e1
       have z2:wr.cell? ⟨b,o+k*3+2,none⟩=some (.slice B2 m2 d2):=(hb.cell (p:=⟨b,o+k*3+2,none⟩) (bL w _ e2)).trans e2
       replace his:=hid his
       clear e0 e1 e2 hq hm hMM hb
       go_upto_region 5 with fail
       obtain ⟨w2,hw2⟩:=eX (wr.alloc (.cells #[.bool s1,.slice B1 m1 d1,.slice B2 m2 d2] 33))
       have b2:Below wr.heap.size wr w2:=by rw [hw2];exact (Below.refl _ _).alloc (nL _) _
       have Lx:AS' w2 wr.heap.size ⟨s1,B1,m1,d1,B2,m2,d2⟩:=by rw [hw2];exact hA_ wr _
       rw [←hw2]
       clear hw2 z0 z1 z2
       obtain ⟨-,-,⟨_,Ll0,-⟩,_,Lg0,-⟩:=id hM.out
       have hxl1:wr.heap.size≠wB.heap.size:=by have:=Ll0.lt;omega
       have hxg1:wr.heap.size≠wB.heap.size+1:=by have:=Lg0.lt;omega
       clear Ll0 Lg0
       have hM2:=hid (hM.out.call b2)
       obtain ⟨-,hb2,⟨⟨s3,D1,e1,f1,D2,e2,f2⟩,Ll,pl⟩,-⟩:=id hM2.out
       have x0:=Lx.c0
       have x1:=Lx.c1'
       have x2:=Lx.c2'
       have y0:=Ll.c0
       have y1:=Ll.c1'
       have y2:=Ll.c2'
       have HC:=hid (BB' (Ac'.keep his.out hb2) (Ac'.keep pl hb2) hqs.out hms.out)
       obtain ⟨cc,hcc⟩:=eX (cmpQ q m:Int)
       change Hid (Calls _ _ _ _ (AY' w2 (cmpQ q m))) at HC
       rw [←hcc] at HC
       replace Lx:=hid Lx
       replace Ll:=hid Ll
       replace hcc:=hid hcc
       clear hb2 pl b2 hM
       rcases Decidable.em (q<m) with hqm | hqm
       · have hd:decide (cc<0)=true:=dT_ (by rw [hcc.out,CY];exact hqm)
         rw [if_pos hqm] at hst
         replace hqm:=hid hqm
         go_wp2_with fail
         refine (HC.out).mono ?_
         rintro e w3 ⟨rfl,b3⟩
         have hM3:=hid (hM2.out.call b3)
         have Lx3:=hid (Lx.out.call b3)
         have Ll3:=hid (Ll.out.call b3)
         have p0:=Lx3.out.c0
         have p1:=Lx3.out.c1'
         have p2:=Lx3.out.c2'
         have q0:=Ll3.out.c0
         have q1:=Ll3.out.c1'
         have q2:=Ll3.out.c2'
         have F0:=Ll3.out.fr 0
         have F1:=Ll3.out.fr 1
         have F2:=Ll3.out.fr 2
         clear HC Lx Ll hM2 b3 x0 x1 x2 y0 y1 y2
         go_upto_region 7 with fail
         obtain ⟨w4,hw4⟩:=eX (((w3.setCell ⟨wB.heap.size,0,none⟩ (.bool s1)).setCell ⟨wB.heap.size,1,none⟩ (.slice B1 m1 d1)).setCell ⟨wB.heap.size,2,none⟩ (.slice B2 m2 d2))
         have hw4':w4=Go.Proofs.YtbigkkjnhcpgiaaGreatDoor.BO' w3 (wB.heap.size) ⟨s1,B1,m1,d1,B2,m2,d2⟩:=hw4
         have hM4:Hid (BC' w wB (w.heap.size+1) (wB.heap.size) (wB.heap.size+1) q M w4):=by rw [hw4'];exact hM3.out.putl his.out (by omega) (by omega) (by omega)
         have Lx4:Hid (AS' w4 wr.heap.size ⟨s1,B1,m1,d1,B2,m2,d2⟩):=by rw [hw4'];exact Lx3.out.put3o hxl1
         rw [←hw4]
         clear hw4 hw4' hM3 Lx3 Ll3 F0 F1 F2 q0 q1 q2 p0 p1 p2 hd hcc
         obtain ⟨-,hb4,-,⟨s4,D3,e3,f3,D4,e4,f4⟩,Lg,pg⟩:=id hM4.out
         have x0:=Lx4.out.c0
         have x1:=Lx4.out.c1'
         have x2:=Lx4.out.c2'
         have y0:=Lg.c0
         have y1:=Lg.c1'
         have y2:=Lg.c2'
         have HC:=hid (BB' (Ac'.keep his.out hb4) (Ac'.keep pg hb4) hqs.out hMs.out)
         obtain ⟨cc,hcc⟩:=eX (cmpQ q M:Int)
         change Hid (Calls _ _ _ _ (AY' w4 (cmpQ q M))) at HC
         rw [←hcc] at HC
         replace Lg:=hid Lg
         replace hcc:=hid hcc
         clear hb4 pg
         rcases Decidable.em (M<q) with hqM | hqM
         · have hd:decide (cc>0)=true:=dT_ (by rw [hcc.out,Bu];exact hqM)
           rw [if_pos hqM] at hgt
           replace hqM:=hid hqM
           go_wp2_with fail
           refine (HC.out).mono ?_
           rintro e w5 ⟨rfl,b5⟩
           have hM5:=hid (hM4.out.call b5)
           have Lx5:=hid (Lx4.out.call b5)
           have Lg5:=hid (Lg.out.call b5)
           have p0:=Lx5.out.c0
           have p1:=Lx5.out.c1'
           have p2:=Lx5.out.c2'
           have q0:=Lg5.out.c0
           have q1:=Lg5.out.c1'
           have q2:=Lg5.out.c2'
           have F0:=Lg5.out.fr 0
           have F1:=Lg5.out.fr 1
           have F2:=Lg5.out.fr 2
           clear HC Lx4 Lg hM4 b5 x0 x1 x2 y0 y1 y2
           go_wp2_with fail
           go_roundw
           case rel =>
             have hfin:BC' w wB (w.heap.size+1) (wB.heap.size) (wB.heap.size+1) q q (Go.Proofs.YtbigkkjnhcpgiaaGreatDoor.BO' w5 (wB.heap.size+1) ⟨s1,B1,m1,d1,B2,m2,d2⟩):=BC'.putg hM5.out his.out (by omega) (by omega) (by omega)
             unfold Go.Proofs.YtbigkkjnhcpgiaaGreatDoor.BO' at hfin
             refine ⟨k+1,by omega,by simp,?_⟩
             rw [hst.out,hgt.out]
             exact hfin
           case measure=>simp [intOf];omega
         · have hd:decide (cc>0)=false:=dF_ (by rw [hcc.out,Bu];exact hqM)
           rw [if_neg hqM] at hgt
           replace hqM:=hid hqM
           go_wp2_with fail
           refine (HC.out).mono ?_
           rintro e w5 ⟨rfl,b5⟩
           have hM5:=hid (hM4.out.call b5)
           have Lx5:=hid (Lx4.out.call b5)
           have Lg5:=hid (Lg.out.call b5)
           have p0:=Lx5.out.c0
           have p1:=Lx5.out.c1'
           have p2:=Lx5.out.c2'
           clear HC Lx4 Lg hM4 b5 x0 x1 x2 y0 y1 y2
           go_wp2_with fail
           go_roundw
           case rel=>exact ⟨k+1,by omega,by simp,by rw [hst.out,hgt.out];exact hM5.out⟩
           case measure=>simp [intOf];omega
       · have hd:decide (cc<0)=false:=dF_ (by rw [hcc.out,CY];exact hqm)
         rw [if_neg hqm] at hst
         replace hqm:=hid hqm
         go_wp2_with fail
         refine (HC.out).mono ?_
         rintro e w3 ⟨rfl,b3⟩
         have hM3:=hid (hM2.out.call b3)
         have Lx3:=hid (Lx.out.call b3)
         have Ll3:=hid (Ll.out.call b3)
         have p0:=Lx3.out.c0
         have p1:=Lx3.out.c1'
         have p2:=Lx3.out.c2'
         clear HC Lx Ll hM2 b3 x0 x1 x2 y0 y1 y2
         go_upto_region 7 with fail
         obtain ⟨w4,hw4⟩:=eX w3
         have hM4:Hid (BC' w wB (w.heap.size+1) (wB.heap.size) (wB.heap.size+1) m M w4):=by rw [hw4];exact hM3.out
         have Lx4:Hid (AS' w4 wr.heap.size ⟨s1,B1,m1,d1,B2,m2,d2⟩):=by rw [hw4];exact Lx3.out
         rw [←hw4]
         clear hw4 hM3 Lx3 Ll3 p0 p1 p2 hd hcc
         obtain ⟨-,hb4,-,⟨s4,D3,e3,f3,D4,e4,f4⟩,Lg,pg⟩:=id hM4.out
         have x0:=Lx4.out.c0
         have x1:=Lx4.out.c1'
         have x2:=Lx4.out.c2'
         have y0:=Lg.c0
         have y1:=Lg.c1'
         have y2:=Lg.c2'
         have HC:=hid (BB' (Ac'.keep his.out hb4) (Ac'.keep pg hb4) hqs.out hMs.out)
         obtain ⟨cc,hcc⟩:=eX (cmpQ q M:Int)
         change Hid (Calls _ _ _ _ (AY' w4 (cmpQ q M))) at HC
         rw [←hcc] at HC
         replace Lg:=hid Lg
         replace hcc:=hid hcc
         clear hb4 pg
         rcases Decidable.em (M<q) with hqM | hqM
         · have hd:decide (cc>0)=true:=dT_ (by rw [hcc.out,Bu];exact hqM)
           rw [if_pos hqM] at hgt
           replace hqM:=hid hqM
           go_wp2_with fail
           refine (HC.out).mono ?_
           rintro e w5 ⟨rfl,b5⟩
           have hM5:=hid (hM4.out.call b5)
           have Lx5:=hid (Lx4.out.call b5)
           have Lg5:=hid (Lg.out.call b5)
           have p0:=Lx5.out.c0
           have p1:=Lx5.out.c1'
           have p2:=Lx5.out.c2'
           have q0:=Lg5.out.c0
           have q1:=Lg5.out.c1'
           have q2:=Lg5.out.c2'
           have F0:=Lg5.out.fr 0
           have F1:=Lg5.out.fr 1
           have F2:=Lg5.out.fr 2
           clear HC Lx4 Lg hM4 b5 x0 x1 x2 y0 y1 y2
           go_wp2_with fail
           go_roundw
           case rel =>
             have hfin:BC' w wB (w.heap.size+1) (wB.heap.size) (wB.heap.size+1) m q (Go.Proofs.YtbigkkjnhcpgiaaGreatDoor.BO' w5 (wB.heap.size+1) ⟨s1,B1,m1,d1,B2,m2,d2⟩):=BC'.putg hM5.out his.out (by omega) (by omega) (by omega)
             unfold Go.Proofs.YtbigkkjnhcpgiaaGreatDoor.BO' at hfin
             refine ⟨k+1,by omega,by simp,?_⟩
             rw [hst.out,hgt.out]
             exact hfin
           case measure=>simp [intOf];omega
         · have hd:decide (cc>0)=false:=dF_ (by rw [hcc.out,Bu];exact hqM)
           rw [if_neg hqM] at hgt
           replace hqM:=hid hqM
           go_wp2_with fail
           refine (HC.out).mono ?_
           rintro e w5 ⟨rfl,b5⟩
           have hM5:=hid (hM4.out.call b5)
           have Lx5:=hid (Lx4.out.call b5)
           have Lg5:=hid (Lg.out.call b5)
           have p0:=Lx5.out.c0
           have p1:=Lx5.out.c1'
           have p2:=Lx5.out.c2'
           clear HC Lx4 Lg hM4 b5 x0 x1 x2 y0 y1 y2
           go_wp2_with fail
           go_roundw
           case rel=>exact ⟨k+1,by omega,by simp,by rw [hst.out,hgt.out];exact hM5.out⟩
           case measure=>simp [intOf];omega
     · have hkl:k=l.length:=by omega
       subst hkl
       rw [List.take_length,←hxl.out,←hxg.out] at hM
       obtain ⟨hK,hb,⟨⟨s1,A1,n1,c1,A2,n2,c2⟩,Ll,pl⟩,⟨⟨s2,A3,n3,c3,A4,n4,c4⟩,Lg,pg⟩⟩:=id hM.out
       have hsl:=Bt' hs.out hs2.out l.length
       have hsg:=A6' hs.out hs2.out l.length
       rw [List.take_length,←hxl.out] at hsl
       rw [List.take_length,←hxg.out] at hsg
       have hpl:=Ac'.keep pl hb
       have hpg:=Ac'.keep pg hb
       have HXl:=fun (w':World) (hk:Am' wB (w.heap.size+1) wr w')=>hid (AJ (hk.stay.num hpl) (nT hsl (by omega)))
       have HXg:=fun (w':World) (hk:Am' wB (w.heap.size+1) wr w')=>hid (AJ (hk.stay.num hpg) (nT hsg (by omega)))
       have H0:=hK.begin6.locs Ll.drew Lg.drew
       have H0':=H0
       unfold Bl at H0'
       clear hK hb Ll pl Lg pg hsl hsg hM hpl hpg hl hs hs2 hxl hxg
       go_wp2_with fail
       go_region_held3 (fun w'=>(w'.cell? ⟨wB.heap.size,0,none⟩=some (.bool s1)∧w'.cell? ⟨wB.heap.size,1,none⟩=some (.slice A1 n1 c1)∧w'.cell? ⟨wB.heap.size,2,none⟩=some (.slice A2 n2 c2))∧(w'.cell? ⟨wB.heap.size+1,0,none⟩=some (.bool s2)∧w'.cell? ⟨wB.heap.size+1,1,none⟩=some (.slice A3 n3 c3)∧w'.cell? ⟨wB.heap.size+1,2,none⟩=some (.slice A4 n4 c4))∧(AS' w' (wB.heap.size) ⟨s1,A1,n1,c1,A2,n2,c2⟩∧AS' w' (wB.heap.size+1) ⟨s2,A3,n3,c3,A4,n4,c4⟩)∧(∀ b o,b<w.heap.size+1→w'.cell? ⟨b,o,none⟩=wB.cell? ⟨b,o,none⟩)∧w'.cell? ⟨w.heap.size+1,0,none⟩=some (cur w' ⟨w.heap.size+1,0,none⟩)∧w'.cell? ⟨w.heap.size+1,1,none⟩=some (cur w' ⟨w.heap.size+1,1,none⟩)∧w'.cell? ⟨w.heap.size+1,2,none⟩=some (cur w' ⟨w.heap.size+1,2,none⟩)∧w'.cell? ⟨w.heap.size+1,3,none⟩=some (cur w' ⟨w.heap.size+1,3,none⟩)∧w'.cell? ⟨w.heap.size+1,4,none⟩=some (cur w' ⟨w.heap.size+1,4,none⟩)∧w'.cell? ⟨w.heap.size+1,5,none⟩=some (cur w' ⟨w.heap.size+1,5,none⟩)∧w'.frozen? ⟨w.heap.size+1,0,none⟩=false∧w'.frozen? ⟨w.heap.size+1,1,none⟩=false∧w'.frozen? ⟨w.heap.size+1,2,none⟩=false∧w'.frozen? ⟨w.heap.size+1,3,none⟩=false∧w'.frozen? ⟨w.heap.size+1,4,none⟩=false∧w'.frozen? ⟨w.heap.size+1,5,none⟩=false∧Ai' 6 35 wB (w.heap.size+1) w'∧Aj wr w')
         (first | with_reducible exact H0' | with_reducible exact hk1' | with_reducible exact hk2' | exact hk2.store hNl hNg)
         (first | (go_at_call 61;refine ((HXg _ hk1.held).out).mono ?_;rintro e w2 ⟨v2,rfl,hv2,hbl2⟩;obtain ⟨C7,j7,C8,j8,rfl,-,-⟩:=id hv2.opened;have hk2:=hk1.call hbl2;have hk2':=hk2;unfold Bl at hk2') | (go_at_call 61;refine ((HXl _ H0.held).out).mono ?_;rintro e w1 ⟨v1,rfl,hv1,hbl1⟩;obtain ⟨C5,j5,C6,j6,rfl,-,-⟩:=id hv1.opened;have hk1:=H0.call hbl1;have hk1':=hk1;unfold Bl at hk1'))
       rename_i hHl
       clear hHl
       have hv1':=hv1.keep hbl2
       have HD:=hk2.held.done (p:=xl) (q:=xg) (s1:=decide (xl.num<0)) (A1:=C5) (n1:=len xl.num.natAbs) (c1:=j5) (A2:=C6) (n2:=len (below xl.den)) (c2:=j6) (s2:=decide (xg.num<0)) (A3:=C7) (n3:=len xg.num.natAbs) (c3:=j7) (A4:=C8) (n4:=len (below xg.den)) (c4:=j8) (hv1') (hv2)
       obtain ⟨d1,d2,d3⟩:=HD
       obtain ⟨r0,r1,r2,r3,r4,r5⟩:=Ae' d3
       have HD:=hid (And.intro d1 d2)
       clear d1 d2 d3
       go_wp2_with fail
       refine bP (v:=.agg #[.bool (decide (xl.num<0)),.slice (C5) (len xl.num.natAbs) (j5),.slice (C6) (len (below xl.den)) (j6),.bool (decide (xg.num<0)),.slice (C7) (len xg.num.natAbs) (j7),.slice (C8) (len (below xg.den)) (j8)]) ?_ rfl ⟨_,rfl,HD.out.1,Ae HB0.out (by omega) HD.out.2⟩
       simp [results,Tryz.results85,go_sem,r0,r1,r2,r3,r4,r5]
 · have hNl:wB.heap.size+1≠w.heap.size+1:=by omega
   have hNg:wB.heap.size≠w.heap.size+1:=by omega
   have hNe:wB.heap.size+1≠wB.heap.size:=by omega
   have HM0:Hid (BC' w wB (w.heap.size+1) (wB.heap.size+1) (wB.heap.size) x x w1):=⟨HK1.out,hBw.out,⟨_,L2.out,hx'.out⟩,⟨_,L1.out,hx'.out⟩⟩
   clear L1 L2
   go_wp2_with fail
   go_loopw [13] (fun i wr=>∃ k:Nat,k≤l.length∧i=.int .i64 k∧Hid (BC' w wB (w.heap.size+1) (wB.heap.size+1) (wB.heap.size) (leastOf x (l.take k)) (greatestOf x (l.take k)) wr)) (fun i _=>l.length - (intOf i).toNat)
   case atStart=>exact ⟨0,Nat.zero_le _,rfl,HM0⟩
   case round =>
     clear HM0
     obtain ⟨k,hk,rfl,hM⟩:=hrel
     rcases Nat.lt_or_ge k l.length with hlt | hge
     · obtain ⟨q,hq⟩:∃ q,l[k]?=some q:=⟨_,List.getElem?_eq_getElem hlt⟩
       obtain ⟨⟨s1,B1,m1,d1,B2,m2,d2⟩,e0,e1,e2,his⟩:=hl.out k q hq
       have hqs:Hid (Aa' q≤34359738368):=hs2.out q (List.mem_of_getElem? hq)
       obtain ⟨m,hm⟩:=eX (leastOf x (l.take k))
       obtain ⟨M,hMM⟩:=eX (greatestOf x (l.take k))
       have hms:Hid (Aa' m≤34359738368):=by show _≤_;rw [hm];exact Bt' hs.out hs2.out k
       have hMs:Hid (Aa' M≤34359738368):=by show _≤_;rw [hMM];exact A6' hs.out hs2.out k
       rw [←hm,←hMM] at hM
       have hst:=B5' (x:=x) hq
       have hgt:=BG' (x:=x) hq
       rw [←hm] at hst
       rw [←hMM] at hgt
       replace hst:=hid hst
       replace hgt:=hid hgt
       have hb:=hM.out.2.1
       have z0:wr.cell? ⟨b,o+k*3,none⟩=some (.bool s1):=(hb.cell (p:=⟨b,o+k*3,none⟩) (bL w _ e0)).trans e0
       have z1:wr.cell? ⟨b,o+k*3+1,none⟩=some (.slice B1 m1 d1):=(hb.cell (p:=⟨b,o+k*3+1,none⟩) (bL w _ e1)).trans e1
       have z2:wr.cell? ⟨b,o+k*3+2,none⟩=some (.slice B2 m2 d2):=(hb.cell (p:=⟨b,o+k*3+2,none⟩) (bL w _ e2)).trans e2
       replace his:=hid his
       clear e0 e1 e2 hq hm hMM hb
       go_upto_region 5 with fail
       obtain ⟨w2,hw2⟩:=eX (wr.alloc (.cells #[.bool s1,.slice B1 m1 d1,.slice B2 m2 d2] 33))
       have b2:Below wr.heap.size wr w2:=by rw [hw2];exact (Below.refl _ _).alloc (nL _) _
       have Lx:AS' w2 wr.heap.size ⟨s1,B1,m1,d1,B2,m2,d2⟩:=by rw [hw2];exact hA_ wr _
       rw [←hw2]
       clear hw2 z0 z1 z2
       obtain ⟨-,-,⟨_,Ll0,-⟩,_,Lg0,-⟩:=id hM.out
       have hxl1:wr.heap.size≠wB.heap.size+1:=by have:=Ll0.lt;omega
       have hxg1:wr.heap.size≠wB.heap.size:=by have:=Lg0.lt;omega
       clear Ll0 Lg0
       have hM2:=hid (hM.out.call b2)
       obtain ⟨-,hb2,⟨⟨s3,D1,e1,f1,D2,e2,f2⟩,Ll,pl⟩,-⟩:=id hM2.out
       have x0:=Lx.c0
       have x1:=Lx.c1'
       have x2:=Lx.c2'
       have y0:=Ll.c0
       have y1:=Ll.c1'
       have y2:=Ll.c2'
       have HC:=hid (BB' (Ac'.keep his.out hb2) (Ac'.keep pl hb2) hqs.out hms.out)
       obtain ⟨cc,hcc⟩:=eX (cmpQ q m:Int)
       change Hid (Calls _ _ _ _ (AY' w2 (cmpQ q m))) at HC
       rw [←hcc] at HC
       replace Lx:=hid Lx
       replace Ll:=hid Ll
       replace hcc:=hid hcc
       clear hb2 pl b2 hM
       rcases Decidable.em (q<m) with hqm | hqm
       · have hd:decide (cc<0)=true:=dT_ (by rw [hcc.out,CY];exact hqm)
         rw [if_pos hqm] at hst
         replace hqm:=hid hqm
         go_wp2_with fail
         refine (HC.out).mono ?_
         rintro e w3 ⟨rfl,b3⟩
         have hM3:=hid (hM2.out.call b3)
         have Lx3:=hid (Lx.out.call b3)
         have Ll3:=hid (Ll.out.call b3)
         have p0:=Lx3.out.c0
         have p1:=Lx3.out.c1'
         have p2:=Lx3.out.c2'
         have q0:=Ll3.out.c0
         have q1:=Ll3.out.c1'
         have q2:=Ll3.out.c2'
         have F0:=Ll3.out.fr 0
         have F1:=Ll3.out.fr 1
         have F2:=Ll3.out.fr 2
         clear HC Lx Ll hM2 b3 x0 x1 x2 y0 y1 y2
         go_upto_region 7 with fail
         obtain ⟨w4,hw4⟩:=eX (((w3.setCell ⟨wB.heap.size+1,0,none⟩ (.bool s1)).setCell ⟨wB.heap.size+1,1,none⟩ (.slice B1 m1 d1)).setCell ⟨wB.heap.size+1,2,none⟩ (.slice B2 m2 d2))
         have hw4':w4=Go.Proofs.YtbigkkjnhcpgiaaGreatDoor.BO' w3 (wB.heap.size+1) ⟨s1,B1,m1,d1,B2,m2,d2⟩:=hw4
         have hM4:Hid (BC' w wB (w.heap.size+1) (wB.heap.size+1) (wB.heap.size) q M w4):=by rw [hw4'];exact hM3.out.putl his.out (by omega) (by omega) (by omega)
         have Lx4:Hid (AS' w4 wr.heap.size ⟨s1,B1,m1,d1,B2,m2,d2⟩):=by rw [hw4'];exact Lx3.out.put3o hxl1
         rw [←hw4]
         clear hw4 hw4' hM3 Lx3 Ll3 F0 F1 F2 q0 q1 q2 p0 p1 p2 hd hcc
         obtain ⟨-,hb4,-,⟨s4,D3,e3,f3,D4,e4,f4⟩,Lg,pg⟩:=id hM4.out
         have x0:=Lx4.out.c0
         have x1:=Lx4.out.c1'
         have x2:=Lx4.out.c2'
         have y0:=Lg.c0
         have y1:=Lg.c1'
         have y2:=Lg.c2'
         have HC:=hid (BB' (Ac'.keep his.out hb4) (Ac'.keep pg hb4) hqs.out hMs.out)
         obtain ⟨cc,hcc⟩:=eX (cmpQ q M:Int)
         change Hid (Calls _ _ _ _ (AY' w4 (cmpQ q M))) at HC
         rw [←hcc] at HC
         replace Lg:=hid Lg
         replace hcc:=hid hcc
         clear hb4 pg
         rcases Decidable.em (M<q) with hqM | hqM
         · have hd:decide (cc>0)=true:=dT_ (by rw [hcc.out,Bu];exact hqM)
           rw [if_pos hqM] at hgt
           replace hqM:=hid hqM
           go_wp2_with fail
           refine (HC.out).mono ?_
           rintro e w5 ⟨rfl,b5⟩
           have hM5:=hid (hM4.out.call b5)
           have Lx5:=hid (Lx4.out.call b5)
           have Lg5:=hid (Lg.out.call b5)
           have p0:=Lx5.out.c0
           have p1:=Lx5.out.c1'
           have p2:=Lx5.out.c2'
           have q0:=Lg5.out.c0
           have q1:=Lg5.out.c1'
           have q2:=Lg5.out.c2'
           have F0:=Lg5.out.fr 0
           have F1:=Lg5.out.fr 1
           have F2:=Lg5.out.fr 2
           clear HC Lx4 Lg hM4 b5 x0 x1 x2 y0 y1 y2
           go_wp2_with fail
           go_roundw
           case rel =>
             have hfin:BC' w wB (w.heap.size+1) (wB.heap.size+1) (wB.heap.size) q q (Go.Proofs.YtbigkkjnhcpgiaaGreatDoor.BO' w5 (wB.heap.size) ⟨s1,B1,m1,d1,B2,m2,d2⟩):=BC'.putg hM5.out his.out (by omega) (by omega) (by omega)
             unfold Go.Proofs.YtbigkkjnhcpgiaaGreatDoor.BO' at hfin
             refine ⟨k+1,by omega,by simp,?_⟩
             rw [hst.out,hgt.out]
             exact hfin
           case measure=>simp [intOf];omega
         · have hd:decide (cc>0)=false:=dF_ (by rw [hcc.out,Bu];exact hqM)
           rw [if_neg hqM] at hgt
           replace hqM:=hid hqM
           go_wp2_with fail
           refine (HC.out).mono ?_
           rintro e w5 ⟨rfl,b5⟩
           have hM5:=hid (hM4.out.call b5)
           have Lx5:=hid (Lx4.out.call b5)
           have Lg5:=hid (Lg.out.call b5)
           have p0:=Lx5.out.c0
           have p1:=Lx5.out.c1'
           have p2:=Lx5.out.c2'
           clear HC Lx4 Lg hM4 b5 x0 x1 x2 y0 y1 y2
           go_wp2_with fail
           go_roundw
           case rel=>exact ⟨k+1,by omega,by simp,by rw [hst.out,hgt.out];exact hM5.out⟩
           case measure=>simp [intOf];omega
       · have hd:decide (cc<0)=false:=dF_ (by rw [hcc.out,CY];exact hqm)
         rw [if_neg hqm] at hst
         replace hqm:=hid hqm
         go_wp2_with fail
         refine (HC.out).mono ?_
         rintro e w3 ⟨rfl,b3⟩
         have hM3:=hid (hM2.out.call b3)
         have Lx3:=hid (Lx.out.call b3)
         have Ll3:=hid (Ll.out.call b3)
         have p0:=Lx3.out.c0
         have p1:=Lx3.out.c1'
         have p2:=Lx3.out.c2'
         clear HC Lx Ll hM2 b3 x0 x1 x2 y0 y1 y2
         go_upto_region 7 with fail
         obtain ⟨w4,hw4⟩:=eX w3
         have hM4:Hid (BC' w wB (w.heap.size+1) (wB.heap.size+1) (wB.heap.size) m M w4):=by rw [hw4];exact hM3.out
         have Lx4:Hid (AS' w4 wr.heap.size ⟨s1,B1,m1,d1,B2,m2,d2⟩):=by rw [hw4];exact Lx3.out
         rw [←hw4]
         clear hw4 hM3 Lx3 Ll3 p0 p1 p2 hd hcc
         obtain ⟨-,hb4,-,⟨s4,D3,e3,f3,D4,e4,f4⟩,Lg,pg⟩:=id hM4.out
         have x0:=Lx4.out.c0
         have x1:=Lx4.out.c1'
         have x2:=Lx4.out.c2'
         have y0:=Lg.c0
         have y1:=Lg.c1'
         have y2:=Lg.c2'
         have HC:=hid (BB' (Ac'.keep his.out hb4) (Ac'.keep pg hb4) hqs.out hMs.out)
         obtain ⟨cc,hcc⟩:=eX (cmpQ q M:Int)
         change Hid (Calls _ _ _ _ (AY' w4 (cmpQ q M))) at HC
         rw [←hcc] at HC
         replace Lg:=hid Lg
         replace hcc:=hid hcc
         clear hb4 pg
         rcases Decidable.em (M<q) with hqM | hqM
         · have hd:decide (cc>0)=true:=dT_ (by rw [hcc.out,Bu];exact hqM)
           rw [if_pos hqM] at hgt
           replace hqM:=hid hqM
           go_wp2_with fail
           refine (HC.out).mono ?_
           rintro e w5 ⟨rfl,b5⟩
           have hM5:=hid (hM4.out.call b5)
           have Lx5:=hid (Lx4.out.call b5)
           have Lg5:=hid (Lg.out.call b5)
           have p0:=Lx5.out.c0
           have p1:=Lx5.out.c1'
           have p2:=Lx5.out.c2'
           have q0:=Lg5.out.c0
           have q1:=Lg5.out.c1'
           have q2:=Lg5.out.c2'
           have F0:=Lg5.out.fr 0
           have F1:=Lg5.out.fr 1
           have F2:=Lg5.out.fr 2
           clear HC Lx4 Lg hM4 b5 x0 x1 x2 y0 y1 y2
           go_wp2_with fail
           go_roundw
           case rel =>
             have hfin:BC' w wB (w.heap.size+1) (wB.heap.size+1) (wB.heap.size) m q (Go.Proofs.YtbigkkjnhcpgiaaGreatDoor.BO' w5 (wB.heap.size) ⟨s1,B1,m1,d1,B2,m2,d2⟩):=BC'.putg hM5.out his.out (by omega) (by omega) (by omega)
             unfold Go.Proofs.YtbigkkjnhcpgiaaGreatDoor.BO' at hfin
             refine ⟨k+1,by omega,by simp,?_⟩
             rw [hst.out,hgt.out]
             exact hfin
           case measure=>simp [intOf];omega
         · have hd:decide (cc>0)=false:=dF_ (by rw [hcc.out,Bu];exact hqM)
           rw [if_neg hqM] at hgt
           replace hqM:=hid hqM
           go_wp2_with fail
           refine (HC.out).mono ?_
           rintro e w5 ⟨rfl,b5⟩
           have hM5:=hid (hM4.out.call b5)
           have Lx5:=hid (Lx4.out.call b5)
           have Lg5:=hid (Lg.out.call b5)
           have p0:=Lx5.out.c0
           have p1:=Lx5.out.c1'
           have p2:=Lx5.out.c2'
           clear HC Lx4 Lg hM4 b5 x0 x1 x2 y0 y1 y2
           go_wp2_with fail
           go_roundw
           case rel=>exact ⟨k+1,by omega,by simp,by rw [hst.out,hgt.out];exact hM5.out⟩
           case measure=>simp [intOf];omega
     · have hkl:k=l.length:=by omega
       subst hkl
       rw [List.take_length,←hxl.out,←hxg.out] at hM
       obtain ⟨hK,hb,⟨⟨s1,A1,n1,c1,A2,n2,c2⟩,Ll,pl⟩,⟨⟨s2,A3,n3,c3,A4,n4,c4⟩,Lg,pg⟩⟩:=id hM.out
       have hsl:=Bt' hs.out hs2.out l.length
       have hsg:=A6' hs.out hs2.out l.length
       rw [List.take_length,←hxl.out] at hsl
       rw [List.take_length,←hxg.out] at hsg
       have hpl:=Ac'.keep pl hb
       have hpg:=Ac'.keep pg hb
       have HXl:=fun (w':World) (hk:Am' wB (w.heap.size+1) wr w')=>hid (AJ (hk.stay.num hpl) (nT hsl (by omega)))
       have HXg:=fun (w':World) (hk:Am' wB (w.heap.size+1) wr w')=>hid (AJ (hk.stay.num hpg) (nT hsg (by omega)))
       have H0:=hK.begin6.locs Ll.drew Lg.drew
       have H0':=H0
       unfold Bl at H0'
       clear hK hb Ll pl Lg pg hsl hsg hM hpl hpg hl hs hs2 hxl hxg
       go_wp2_with fail
       go_region_held3 (fun w'=>(w'.cell? ⟨wB.heap.size+1,0,none⟩=some (.bool s1)∧w'.cell? ⟨wB.heap.size+1,1,none⟩=some (.slice A1 n1 c1)∧w'.cell? ⟨wB.heap.size+1,2,none⟩=some (.slice A2 n2 c2))∧(w'.cell? ⟨wB.heap.size,0,none⟩=some (.bool s2)∧w'.cell? ⟨wB.heap.size,1,none⟩=some (.slice A3 n3 c3)∧w'.cell? ⟨wB.heap.size,2,none⟩=some (.slice A4 n4 c4))∧(AS' w' (wB.heap.size+1) ⟨s1,A1,n1,c1,A2,n2,c2⟩∧AS' w' (wB.heap.size) ⟨s2,A3,n3,c3,A4,n4,c4⟩)∧(∀ b o,b<w.heap.size+1→w'.cell? ⟨b,o,none⟩=wB.cell? ⟨b,o,none⟩)∧w'.cell? ⟨w.heap.size+1,0,none⟩=some (cur w' ⟨w.heap.size+1,0,none⟩)∧w'.cell? ⟨w.heap.size+1,1,none⟩=some (cur w' ⟨w.heap.size+1,1,none⟩)∧w'.cell? ⟨w.heap.size+1,2,none⟩=some (cur w' ⟨w.heap.size+1,2,none⟩)∧w'.cell? ⟨w.heap.size+1,3,none⟩=some (cur w' ⟨w.heap.size+1,3,none⟩)∧w'.cell? ⟨w.heap.size+1,4,none⟩=some (cur w' ⟨w.heap.size+1,4,none⟩)∧w'.cell? ⟨w.heap.size+1,5,none⟩=some (cur w' ⟨w.heap.size+1,5,none⟩)∧w'.frozen? ⟨w.heap.size+1,0,none⟩=false∧w'.frozen? ⟨w.heap.size+1,1,none⟩=false∧w'.frozen? ⟨w.heap.size+1,2,none⟩=false∧w'.frozen? ⟨w.heap.size+1,3,none⟩=false∧w'.frozen? ⟨w.heap.size+1,4,none⟩=false∧w'.frozen? ⟨w.heap.size+1,5,none⟩=false∧Ai' 6 35 wB (w.heap.size+1) w'∧Aj wr w')
         (first | with_reducible exact H0' | with_reducible exact hk1' | with_reducible exact hk2' | exact hk2.store hNl hNg)
         (first | (go_at_call 61;refine ((HXg _ hk1.held).out).mono ?_;rintro e w2 ⟨v2,rfl,hv2,hbl2⟩;obtain ⟨C7,j7,C8,j8,rfl,-,-⟩:=id hv2.opened;have hk2:=hk1.call hbl2;have hk2':=hk2;unfold Bl at hk2') | (go_at_call 61;refine ((HXl _ H0.held).out).mono ?_;rintro e w1 ⟨v1,rfl,hv1,hbl1⟩;obtain ⟨C5,j5,C6,j6,rfl,-,-⟩:=id hv1.opened;have hk1:=H0.call hbl1;have hk1':=hk1;unfold Bl at hk1'))
       rename_i hHl
       clear hHl
       have hv1':=hv1.keep hbl2
       have HD:=hk2.held.done (p:=xl) (q:=xg) (s1:=decide (xl.num<0)) (A1:=C5) (n1:=len xl.num.natAbs) (c1:=j5) (A2:=C6) (n2:=len (below xl.den)) (c2:=j6) (s2:=decide (xg.num<0)) (A3:=C7) (n3:=len xg.num.natAbs) (c3:=j7) (A4:=C8) (n4:=len (below xg.den)) (c4:=j8) (hv1') (hv2)
       obtain ⟨d1,d2,d3⟩:=HD
       obtain ⟨r0,r1,r2,r3,r4,r5⟩:=Ae' d3
       have HD:=hid (And.intro d1 d2)
       clear d1 d2 d3
       go_wp2_with fail
       refine bP (v:=.agg #[.bool (decide (xl.num<0)),.slice (C5) (len xl.num.natAbs) (j5),.slice (C6) (len (below xl.den)) (j6),.bool (decide (xg.num<0)),.slice (C7) (len xg.num.natAbs) (j7),.slice (C8) (len (below xg.den)) (j8)]) ?_ rfl ⟨_,rfl,HD.out.1,Ae HB0.out (by omega) HD.out.2⟩
       simp [results,Tryz.results85,go_sem,r0,r1,r2,r3,r4,r5]
theorem D1' {w:World} {vx:Value} {x q1 q2 q3:Rat} {s1:Bool} {A1 A2:Option Addr} {n1 c1 n2 c2:Nat} {s2:Bool} {A3 A4:Option Addr} {n3 c3 n4 c4:Nat} {s3:Bool} {A5 A6:Option Addr} {n5 c5 n6 c6:Nat} (hx:Ac' w vx x) (hs:Aa' x≤34359738368) (h1:Ac' w (.agg #[.bool s1,.slice A1 n1 c1,.slice A2 n2 c2]) q1) (t1:Aa' q1≤34359738368) (h2:Ac' w (.agg #[.bool s2,.slice A3 n3 c3,.slice A4 n4 c4]) q2) (t2:Aa' q2≤34359738368) (h3:Ac' w (.agg #[.bool s3,.slice A5 n5 c5,.slice A6 n6 c6]) q3) (t3:Aa' q3≤34359738368) :
   Calls Tryz.prog 85 #[vx,.slice (some ⟨w.heap.size,0,none⟩) 3 3] (w.alloc (.cells #[.bool s1,.slice A1 n1 c1,.slice A2 n2 c2,.bool s2,.slice A3 n3 c3,.slice A4 n4 c4,.bool s3,.slice A5 n5 c5,.slice A6 n6 c6] 33)) (Bk' (w.alloc (.cells #[.bool s1,.slice A1 n1 c1,.slice A2 n2 c2,.bool s2,.slice A3 n3 c3,.slice A4 n4 c4,.bool s3,.slice A5 n5 c5,.slice A6 n6 c6] 33)) (leastOf x [q1,q2,q3]) (greatestOf x [q1,q2,q3])):=by
 have hb:Below w.heap.size w (w.alloc (.cells #[.bool s1,.slice A1 n1 c1,.slice A2 n2 c2,.bool s2,.slice A3 n3 c3,.slice A4 n4 c4,.bool s3,.slice A5 n5 c5,.slice A6 n6 c6] 33)):=(Below.refl _ _).alloc (nL _) _
 have hg:(w.alloc (.cells #[.bool s1,.slice A1 n1 c1,.slice A2 n2 c2,.bool s2,.slice A3 n3 c3,.slice A4 n4 c4,.bool s3,.slice A5 n5 c5,.slice A6 n6 c6] 33)).heap[w.heap.size]?=some (.cells #[.bool s1,.slice A1 n1 c1,.slice A2 n2 c2,.bool s2,.slice A3 n3 c3,.slice A4 n4 c4,.bool s3,.slice A5 n5 c5,.slice A6 n6 c6] 33 (0,0)):=hA_ w _
 refine Ig (l:=[q1,q2,q3]) (hx.keep hb) ?_ (by simp) hs ?_
 · intro i q hi
   match i,hi with
   | 0,hi =>
     obtain rfl:=Option.some.inj hi
     exact ⟨⟨s1,A1,n1,c1,A2,n2,c2⟩,cR _ _ 0 _ _ _ hg,cR _ _ 1 _ _ _ hg,cR _ _ 2 _ _ _ hg,h1.keep hb⟩
   | 1,hi =>
     obtain rfl:=Option.some.inj hi
     exact ⟨⟨s2,A3,n3,c3,A4,n4,c4⟩,cR _ _ 3 _ _ _ hg,cR _ _ 4 _ _ _ hg,cR _ _ 5 _ _ _ hg,h2.keep hb⟩
   | 2,hi =>
     obtain rfl:=Option.some.inj hi
     exact ⟨⟨s3,A5,n5,c5,A6,n6,c6⟩,cR _ _ 6 _ _ _ hg,cR _ _ 7 _ _ _ hg,cR _ _ 8 _ _ _ hg,h3.keep hb⟩
   | _+3,hi=>exact absurd hi (by simp)
 · intro y hy
   simp only [List.mem_cons,List.not_mem_nil,or_false] at hy
   rcases hy with rfl | rfl | rfl
   · exact t1
   · exact t2
   · exact t3
theorem CY' {x y:Rat} (hx:Aa' x≤1073741824) (hy:Aa' y≤1073741824):Aa' (x*y)≤34359738368:=nT (AG x y) (by omega)
theorem FD {w:World} {v u:Value} {a b c d:Rat} (hv:Ao' w v a b) (hu:Ao' w u c d) (hs1:Aa' a≤1073741824) (hs2:Aa' b≤1073741824) (hs3:Aa' c≤1073741824) (hs4:Aa' d≤1073741824) :
   Calls Tryz.prog 73 #[.func (.func 30) #[] #[],v,u] w (Bk' w (leastOf ((a*c)) [(a*d),(b*c),(b*d)]) (greatestOf ((a*c)) [(a*d),(b*c),(b*d)])):=by
 obtain ⟨A1,c1,A2,c2,A3,c3,A4,c4,rfl,ha,hb⟩:=hv.opened
 obtain ⟨A5,c5,A6,c6,A7,c7,A8,c8,rfl,hc,hd⟩:=hu.opened
 obtain ⟨wB,hwB⟩:=eX (((w.alloc (.cells #[.bool (decide (a.num<0)),.slice A1 (len a.num.natAbs) c1,.slice A2 (len (below a.den)) c2,.bool (decide (b.num<0)),.slice A3 (len b.num.natAbs) c3,.slice A4 (len (below b.den)) c4] 35)).alloc (.cells #[.bool (decide (c.num<0)),.slice A5 (len c.num.natAbs) c5,.slice A6 (len (below c.den)) c6,.bool (decide (d.num<0)),.slice A7 (len d.num.natAbs) c7,.slice A8 (len (below d.den)) c8] 35)).alloc (.cells #[.bool false,.slice none 0 0,.slice none 0 0,.bool false,.slice none 0 0,.slice none 0 0] 35))
 obtain ⟨b0,g0,g1,g2⟩:=AK' hwB
 obtain ⟨k0,k1,k2,k3,k4,k5⟩:=Ae' g0
 obtain ⟨k6,k7,k8,k9,k10,k11⟩:=Ae' g1
 have HK0:=hid (Ai'.start (T:=35) rfl BQ' g2)
 have HB0:=hid b0
 have hlt1:w.heap.size<w.heap.size+2:=by omega
 have hlt2:w.heap.size+1<w.heap.size+2:=by omega
 clear g0 g1 g2 b0
 obtain ⟨qa,eqa⟩:=eX (a*c:Rat)
 have HSa:Hid (Aa' qa≤34359738368):=by show _≤_;rw [eqa];exact CY' hs1 hs3
 have Hqa:=fun (w':World) (hk:Am' wB (w.heap.size+2) wB w')=>hid (AY (hk.stay.num (ha.keep HB0.out)) (hk.stay.num (hc.keep HB0.out)) (nT hs1 (by omega)) (nT hs3 (by omega)))
 obtain ⟨qb,eqb⟩:=eX (a*d:Rat)
 have HSb:Hid (Aa' qb≤34359738368):=by show _≤_;rw [eqb];exact CY' hs1 hs4
 have Hqb:=fun (w':World) (hk:Am' wB (w.heap.size+2) wB w')=>hid (AY (hk.stay.num (ha.keep HB0.out)) (hk.stay.num (hd.keep HB0.out)) (nT hs1 (by omega)) (nT hs4 (by omega)))
 obtain ⟨qc,eqc⟩:=eX (b*c:Rat)
 have HSc:Hid (Aa' qc≤34359738368):=by show _≤_;rw [eqc];exact CY' hs2 hs3
 have Hqc:=fun (w':World) (hk:Am' wB (w.heap.size+2) wB w')=>hid (AY (hk.stay.num (hb.keep HB0.out)) (hk.stay.num (hc.keep HB0.out)) (nT hs2 (by omega)) (nT hs3 (by omega)))
 obtain ⟨qd,eqd⟩:=eX (b*d:Rat)
 have HSd:Hid (Aa' qd≤34359738368):=by show _≤_;rw [eqd];exact CY' hs2 hs4
 have Hqd:=fun (w':World) (hk:Am' wB (w.heap.size+2) wB w')=>hid (AY (hk.stay.num (hb.keep HB0.out)) (hk.stay.num (hd.keep HB0.out)) (nT hs2 (by omega)) (nT hs4 (by omega)))
 rw [←eqa] at Hqa ⊢
 rw [←eqb] at Hqb ⊢
 rw [←eqc] at Hqc ⊢
 rw [←eqd] at Hqd ⊢
 obtain ⟨xl,hxl⟩:=eX (leastOf qa [qb,qc,qd]:Rat)
 obtain ⟨xg,hxg⟩:=eX (greatestOf qa [qb,qc,qd]:Rat)
 rw [←hxl,←hxg]
 replace hxl:=hid hxl
 replace hxg:=hid hxg
 have H0:=HK0.out.begin6
 have H0':=H0
 unfold Am' at H0'
 clear eqa eqb eqc eqd hv hu ha hb hc hd hs1 hs2 hs3 hs4
 go_enter Tryz.func73,Tryz.ntmps73
 go_upto_region 1 with fail
 rw [←hwB]
 clear hwB
 go_wp2_with fail
 go_region_held3 (fun w'=>(∀ b o,b<w.heap.size+2→w'.cell? ⟨b,o,none⟩=wB.cell? ⟨b,o,none⟩)∧w'.cell? ⟨w.heap.size+2,0,none⟩=some (cur w' ⟨w.heap.size+2,0,none⟩)∧w'.cell? ⟨w.heap.size+2,1,none⟩=some (cur w' ⟨w.heap.size+2,1,none⟩)∧w'.cell? ⟨w.heap.size+2,2,none⟩=some (cur w' ⟨w.heap.size+2,2,none⟩)∧w'.cell? ⟨w.heap.size+2,3,none⟩=some (cur w' ⟨w.heap.size+2,3,none⟩)∧w'.cell? ⟨w.heap.size+2,4,none⟩=some (cur w' ⟨w.heap.size+2,4,none⟩)∧w'.cell? ⟨w.heap.size+2,5,none⟩=some (cur w' ⟨w.heap.size+2,5,none⟩)∧w'.frozen? ⟨w.heap.size+2,0,none⟩=false∧w'.frozen? ⟨w.heap.size+2,1,none⟩=false∧w'.frozen? ⟨w.heap.size+2,2,none⟩=false∧w'.frozen? ⟨w.heap.size+2,3,none⟩=false∧w'.frozen? ⟨w.heap.size+2,4,none⟩=false∧w'.frozen? ⟨w.heap.size+2,5,none⟩=false∧Ai' 6 35 wB (w.heap.size+2) w'∧Aj wB w')
   (first | with_reducible exact H0' | with_reducible exact hk1' | with_reducible exact hk2' | with_reducible exact hk3' | with_reducible exact hk4' | with_reducible exact hk5' | exact hk5.store | (have hkb:=hk4.call ((Below.refl w4.heap.size w4).alloc (nL _) (.cells #[.bool (decide (qb.num<0)),.slice C3 (len qb.num.natAbs) j3,.slice C4 (len (below qb.den)) j4,.bool (decide (qc.num<0)),.slice C5 (len qc.num.natAbs) j5,.slice C6 (len (below qc.den)) j6,.bool (decide (qd.num<0)),.slice C7 (len qd.num.natAbs) j7,.slice C8 (len (below qd.den)) j8] 33));unfold Am' at hkb;exact hkb))
   (first | (go_at_call 85;have hc:=D1' (((hv1.keep hbl2).keep hbl3).keep hbl4) HSa.out ((hv2.keep hbl3).keep hbl4) HSb.out (hv3.keep hbl4) HSc.out hv4 HSd.out;rw [←hxl.out,←hxg.out] at hc;refine hc.mono ?_;clear hc;rintro e w5 ⟨v5,rfl,hv5,hbl5⟩;obtain ⟨E1,i1,E2,i2,E3,i3,E4,i4,rfl,hp1,hp2⟩:=hv5.opened;have hk5:=(hk4.call ((Below.refl w4.heap.size w4).alloc (nL _) (.cells #[.bool (decide (qb.num<0)),.slice C3 (len qb.num.natAbs) j3,.slice C4 (len (below qb.den)) j4,.bool (decide (qc.num<0)),.slice C5 (len qc.num.natAbs) j5,.slice C6 (len (below qc.den)) j6,.bool (decide (qd.num<0)),.slice C7 (len qd.num.natAbs) j7,.slice C8 (len (below qd.den)) j8] 33))).call hbl5;have hk5':=hk5;unfold Am' at hk5') | (go_at_call 30;refine ((Hqd _ hk3).out).mono ?_;rintro e w4 ⟨v4,rfl,hv4,hbl4⟩;obtain ⟨C7,j7,C8,j8,rfl,-,-⟩:=id hv4.opened;have hk4:=hk3.call hbl4;have hk4':=hk4;unfold Am' at hk4') | (go_at_call 30;refine ((Hqc _ hk2).out).mono ?_;rintro e w3 ⟨v3,rfl,hv3,hbl3⟩;obtain ⟨C5,j5,C6,j6,rfl,-,-⟩:=id hv3.opened;have hk3:=hk2.call hbl3;have hk3':=hk3;unfold Am' at hk3') | (go_at_call 30;refine ((Hqb _ hk1).out).mono ?_;rintro e w2 ⟨v2,rfl,hv2,hbl2⟩;obtain ⟨C3,j3,C4,j4,rfl,-,-⟩:=id hv2.opened;have hk2:=hk1.call hbl2;have hk2':=hk2;unfold Am' at hk2') | (go_at_call 30;refine ((Hqa _ H0).out).mono ?_;rintro e w1 ⟨v1,rfl,hv1,hbl1⟩;obtain ⟨C1,j1,C2,j2,rfl,-,-⟩:=id hv1.opened;have hk1:=H0.call hbl1;have hk1':=hk1;unfold Am' at hk1'))
 rename_i hHl
 clear hHl
 have HD:=hk5.done (p:=xl) (q:=xg) (s1:=decide (xl.num<0)) (A1:=E1) (n1:=len xl.num.natAbs) (c1:=i1) (A2:=E2) (n2:=len (below xl.den)) (c2:=i2) (s2:=decide (xg.num<0)) (A3:=E3) (n3:=len xg.num.natAbs) (c3:=i3) (A4:=E4) (n4:=len (below xg.den)) (c4:=i4) (hp1) (hp2)
 obtain ⟨d1,d2,d3⟩:=HD
 obtain ⟨r0,r1,r2,r3,r4,r5⟩:=Ae' d3
 have HD:=hid (And.intro d1 d2)
 clear d1 d2 d3
 go_wp2_with fail
 refine bP (v:=.agg #[.bool (decide (xl.num<0)),.slice (E1) (len xl.num.natAbs) (i1),.slice (E2) (len (below xl.den)) (i2),.bool (decide (xg.num<0)),.slice (E3) (len xg.num.natAbs) (i3),.slice (E4) (len (below xg.den)) (i4)]) ?_ rfl ⟨_,rfl,HD.out.1,Ae HB0.out (by omega) HD.out.2⟩
 simp [results,Tryz.results73,go_sem,r0,r1,r2,r3,r4,r5]
theorem Fa {w:World} {vx:Value} {x:Rat} {n bn:Nat} (hx:Ac' w vx x) (hN:w.cell? ⟨bn,0,none⟩=some (.int .i64 (n:Nat))) (hn:n≤1099511627776) (hs:Aa' x*n≤1099511627776) (hs1:Aa' x≤1099511627776) :
   Calls Tryz.prog 65 #[vx,.pointer (some ⟨bn,0,none⟩)] w (Ar' w (x^n)):=by
 obtain ⟨A1,c1,A2,c2,rfl,-,-⟩:=id hx.opened
 obtain ⟨wB,hwB⟩:=eX ((w.alloc (.cells #[.bool (decide (x.num<0)),.slice A1 (len x.num.natAbs) c1,.slice A2 (len (below x.den)) c2] 33)).alloc (.cells #[.bool false,.slice none 0 0,.slice none 0 0] 33))
 obtain ⟨b0,g0,g1⟩:=AA' hwB
 obtain ⟨k0,k1,k2⟩:=Ab' g0
 have HK0:=hid (Ai'.start (T:=33) rfl (Au _ _ _ _ _ _ _) g1)
 have HB0:=hid b0
 have hlt1:w.heap.size<w.heap.size+1:=by omega
 clear g0 g1 b0
 have hNB:wB.cell? ⟨bn,0,none⟩=some (.int .i64 (n:Nat)):=(HB0.out.cell (p:=⟨bn,0,none⟩) (bL w _ hN)).trans hN
 obtain ⟨q,hq⟩:=eX (x^n:Rat)
 have HX:=hid (E9' (hx.keep HB0.out) hn hs hs1)
 rw [←hq] at HX ⊢
 clear hq hN hn hs hs1 hx
 go_enter Tryz.func65,Tryz.ntmps65
 go_upto_region 1 with fail
 rw [←hwB]
 clear hwB
 go_wp2_with fail
 refine (HX.out).mono ?_
 rintro e w5 ⟨v5,rfl,hv5,b5⟩
 obtain ⟨C1,j1,C2,j2,rfl,-,-⟩:=hv5.opened
 have hk:=(HK0.out.call b5).held (Aj.refl _)
 clear b5 HX
 obtain ⟨-,c0,c1',c2',f0,f1,f2,-⟩:=id hk
 have HD:=hk.done (q:=q) (b:=decide (q.num<0)) (A1:=C1) (n1:=len q.num.natAbs) (c1:=j1) (A2:=C2) (n2:=len (below q.den)) (c2:=j2) (hv5)
 obtain ⟨d1,d2,d3⟩:=HD
 obtain ⟨r0,r1,r2⟩:=Ab' d3
 have HD:=hid (And.intro d1 d2)
 clear d1 d2 d3
 go_wp2_with fail
 refine bP (v:=.agg #[.bool (decide (q.num<0)),.slice (C1) (len q.num.natAbs) (j1),.slice (C2) (len (below q.den)) (j2)]) ?_ rfl ⟨_,rfl,HD.out.1,Ae HB0.out (by omega) HD.out.2⟩
 simp [results,Tryz.results65,go_sem,r0,r1,r2]
theorem Ig' {w:World} {v:Value} {a b:Rat} {n bn:Nat} (hv:Ao' w v a b) (hN:w.cell? ⟨bn,0,none⟩=some (.int .i64 (n:Nat))) (hn:n≤1099511627776) (hs:Aa' a*n≤1099511627776) (hs1:Aa' a≤1099511627776) (ht:Aa' b*n≤1099511627776) (ht1:Aa' b≤1099511627776) :
   Calls Tryz.prog 64 #[v,.func (.func 65) #[] #[.pointer (some ⟨bn,0,none⟩)]] w (Bk' w (a^n) (b^n)):=by
 obtain ⟨A1,c1,A2,c2,A3,c3,A4,c4,rfl,ha,hb⟩:=hv.opened
 obtain ⟨wB,hwB⟩:=eX ((w.alloc (.cells #[.bool (decide (a.num<0)),.slice A1 (len a.num.natAbs) c1,.slice A2 (len (below a.den)) c2,.bool (decide (b.num<0)),.slice A3 (len b.num.natAbs) c3,.slice A4 (len (below b.den)) c4] 35)).alloc (.cells #[.bool false,.slice none 0 0,.slice none 0 0,.bool false,.slice none 0 0,.slice none 0 0] 35))
 obtain ⟨b0,g0,g1⟩:=AA' hwB
 obtain ⟨k0,k1,k2,k3,k4,k5⟩:=Ae' g0
 have HK0:=hid (Ai'.start (T:=35) rfl BQ' g1)
 have HB0:=hid b0
 have hlt1:w.heap.size<w.heap.size+1:=by omega
 clear g0 g1 b0
 obtain ⟨q,hq⟩:=eX (a^n:Rat)
 obtain ⟨r,hr⟩:=eX (b^n:Rat)
 have HN:=fun (w':World) (hk:Am' wB (w.heap.size+1) wB w')=>(Ae HB0.out (by omega) hk.kept.1).cell (p:=⟨bn,0,none⟩) (bL w _ hN)
 have HX:=fun (w':World) (hk:Am' wB (w.heap.size+1) wB w')=>hid (Fa (hk.stay.num (ha.keep HB0.out)) ((HN w' hk).trans hN) hn hs hs1)
 have HY:=fun (w':World) (hk:Am' wB (w.heap.size+1) wB w')=>hid (Fa (hk.stay.num (hb.keep HB0.out)) ((HN w' hk).trans hN) hn ht ht1)
 rw [←hq] at HX ⊢
 rw [←hr] at HY ⊢
 have H0:=HK0.out.begin6
 have H0':=H0
 unfold Am' at H0'
 clear HN hq hr hN hn hs hs1 ht ht1 hv ha hb
 go_enter Tryz.func64,Tryz.ntmps64
 go_upto_region 1 with fail
 rw [←hwB]
 clear hwB
 go_wp2_with fail
 go_region_held3 (fun w'=>(∀ b o,b<w.heap.size+1→w'.cell? ⟨b,o,none⟩=wB.cell? ⟨b,o,none⟩)∧w'.cell? ⟨w.heap.size+1,0,none⟩=some (cur w' ⟨w.heap.size+1,0,none⟩)∧w'.cell? ⟨w.heap.size+1,1,none⟩=some (cur w' ⟨w.heap.size+1,1,none⟩)∧w'.cell? ⟨w.heap.size+1,2,none⟩=some (cur w' ⟨w.heap.size+1,2,none⟩)∧w'.cell? ⟨w.heap.size+1,3,none⟩=some (cur w' ⟨w.heap.size+1,3,none⟩)∧w'.cell? ⟨w.heap.size+1,4,none⟩=some (cur w' ⟨w.heap.size+1,4,none⟩)∧w'.cell? ⟨w.heap.size+1,5,none⟩=some (cur w' ⟨w.heap.size+1,5,none⟩)∧w'.frozen? ⟨w.heap.size+1,0,none⟩=false∧w'.frozen? ⟨w.heap.size+1,1,none⟩=false∧w'.frozen? ⟨w.heap.size+1,2,none⟩=false∧w'.frozen? ⟨w.heap.size+1,3,none⟩=false∧w'.frozen? ⟨w.heap.size+1,4,none⟩=false∧w'.frozen? ⟨w.heap.size+1,5,none⟩=false∧Ai' 6 35 wB (w.heap.size+1) w'∧Aj wB w')
   (first | with_reducible exact H0' | with_reducible exact hk1' | with_reducible exact hk2' | exact hk2.store)
   (first | (go_at_call 65;refine ((HY _ hk1).out).mono ?_;rintro e w2 ⟨v2,rfl,hv2,hbl2⟩;obtain ⟨C3,j3,C4,j4,rfl,-,-⟩:=id hv2.opened;have hk2:=hk1.call hbl2;have hk2':=hk2;unfold Am' at hk2') | (go_at_call 65;refine ((HX _ H0).out).mono ?_;rintro e w1 ⟨v1,rfl,hv1,hbl1⟩;obtain ⟨C1,j1,C2,j2,rfl,-,-⟩:=id hv1.opened;have hk1:=H0.call hbl1;have hk1':=hk1;unfold Am' at hk1'))
 rename_i hHl
 clear hHl
 have hv1':=hv1.keep hbl2
 have HD:=hk2.done (p:=q) (q:=r) (s1:=decide (q.num<0)) (A1:=C1) (n1:=len q.num.natAbs) (c1:=j1) (A2:=C2) (n2:=len (below q.den)) (c2:=j2) (s2:=decide (r.num<0)) (A3:=C3) (n3:=len r.num.natAbs) (c3:=j3) (A4:=C4) (n4:=len (below r.den)) (c4:=j4) (hv1') (hv2)
 obtain ⟨d1,d2,d3⟩:=HD
 obtain ⟨r0,r1,r2,r3,r4,r5⟩:=Ae' d3
 have HD:=hid (And.intro d1 d2)
 clear d1 d2 d3
 go_wp2_with fail
 refine bP (v:=.agg #[.bool (decide (q.num<0)),.slice (C1) (len q.num.natAbs) (j1),.slice (C2) (len (below q.den)) (j2),.bool (decide (r.num<0)),.slice (C3) (len r.num.natAbs) (j3),.slice (C4) (len (below r.den)) (j4)]) ?_ rfl ⟨_,rfl,HD.out.1,Ae HB0.out (by omega) HD.out.2⟩
 simp [results,Tryz.results64,go_sem,r0,r1,r2,r3,r4,r5]
theorem Gn {w:World} {v:Value} {a b:Rat} {n:Nat} (hv:Ao' w v a b) (hn:n≤64) (ho:n%2=1) (hs:Aa' a≤1073741824) (ht:Aa' b≤1073741824) :
   Calls Tryz.prog 17 #[v,.int .i64 (n:Nat)] w (Ba w (a^n) (b^n) 0):=by
 obtain ⟨A1,c1,A2,c2,A3,c3,A4,c4,rfl,ha,hb⟩:=hv.opened
 obtain ⟨wB,hwB⟩:=eX (((w.alloc (.cells #[.bool (decide (a.num<0)),.slice A1 (len a.num.natAbs) c1,.slice A2 (len (below a.den)) c2,.bool (decide (b.num<0)),.slice A3 (len b.num.natAbs) c3,.slice A4 (len (below b.den)) c4] 35)).alloc (.cells #[.int .i64 (n:Nat)] 3)).alloc (.cells #[.bool false,.slice none 0 0,.slice none 0 0,.bool false,.slice none 0 0,.slice none 0 0] 35))
 obtain ⟨b0,g0,g1,g2⟩:=AK' hwB
 obtain ⟨k0,k1,k2,k3,k4,k5⟩:=Ae' g0
 have k6:wB.cell? ⟨w.heap.size+1,0,none⟩=some (.int .i64 (n:Nat)):=cR _ _ _ _ _ _ g1
 have HK0:=hid (Ai'.start (T:=35) rfl BQ' g2)
 have HB0:=hid b0
 have hlt1:w.heap.size<w.heap.size+2:=by omega
 have hlt2:w.heap.size+1<w.heap.size+2:=by omega
 clear g0 g1 g2 b0
 obtain ⟨q,hq⟩:=eX (a^n:Rat)
 obtain ⟨r,hr⟩:=eX (b^n:Rat)
 have hl1:Aa' a*n≤1099511627776:=nT (Nat.mul_le_mul hs hn) (by omega)
 have hl2:Aa' b*n≤1099511627776:=nT (Nat.mul_le_mul ht hn) (by omega)
 have HX:=hid (Ig' (bn:=w.heap.size+1) (Ac'.pair (ha.keep HB0.out) (hb.keep HB0.out)) k6 (by omega) hl1 (nT hs (by omega)) hl2 (nT ht (by omega)))
 have h1:decide (((n:Nat):Int)<0)=false:=dF_ (by omega)
 have h2:decide (((n:Nat):Int)>64)=false:=dF_ (by omega)
 have h3:(Int.tmod ((n:Nat):Int) 2==0)=false:=by
   have e:Int.tmod ((n:Nat):Int) 2=((n%2:Nat):Int):=by rw [Int.tmod_eq_emod_of_nonneg (by omega)];omega
   rw [e,ho];rfl
 have h4:(((n:Nat):Int)%2==0)=false:=by
   have e:((n:Nat):Int)%2=((n%2:Nat):Int):=by omega
   rw [e,ho];rfl
 rw [←hq] at HX ⊢
 rw [←hr] at HX ⊢
 clear hl1 hl2 hq hr hn ho hs ht hv ha hb
 go_enter Tryz.func17,Tryz.ntmps17
 go_upto_region 1 with fail
 rw [←hwB]
 clear hwB
 go_wp2_with fail
 refine (HX.out).mono ?_
 rintro e w5 ⟨v5,rfl,hv5,b5⟩
 obtain ⟨C1,j1,C2,j2,C3,j3,C4,j4,rfl,hq1,hr1⟩:=hv5.opened
 have hk:=(HK0.out.call b5).held6 (Aj.refl _)
 have hk':=hk
 unfold Am' at hk'
 clear b5 HX
 obtain ⟨-,c0,c1',c2',c3',c4',c5',f0,f1,f2,f3,f4,f5,-⟩:=hk'
 have HD:=hk.done (p:=q) (q:=r) (s1:=decide (q.num<0)) (A1:=C1) (n1:=len q.num.natAbs) (c1:=j1) (A2:=C2) (n2:=len (below q.den)) (c2:=j2) (s2:=decide (r.num<0)) (A3:=C3) (n3:=len r.num.natAbs) (c3:=j3) (A4:=C4) (n4:=len (below r.den)) (c4:=j4) (hq1) (hr1)
 obtain ⟨d1,d2,d3⟩:=HD
 obtain ⟨r0,r1,r2,r3,r4,r5⟩:=Ae' d3
 have HD:=hid (And.intro d1 d2)
 clear d1 d2 d3
 go_wp2_with fail
 refine bP (v:=.tuple #[.agg #[.bool (decide (q.num<0)),.slice (C1) (len q.num.natAbs) (j1),.slice (C2) (len (below q.den)) (j2),.bool (decide (r.num<0)),.slice (C3) (len r.num.natAbs) (j3),.slice (C4) (len (below r.den)) (j4)],.int .i64 0]) ?_ rfl ⟨_,rfl,HD.out.1,Ae HB0.out (by omega) HD.out.2⟩
 simp [results,Tryz.results17,go_sem,r0,r1,r2,r3,r4,r5]
end Go.Proofs.YtbigkkjnhcpgiaaGreatDoor
