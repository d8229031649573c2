/-
  Contracts of the functions that the law calls, for every input (Ua Place Va BoxN Vb Vc Vd Ve Late Ea).
-/
import Derived.Test.YtlcimajjnfbidaaGreatDoorE00
import Derived.Test.YtlcimajjnfbidaaGreatDoorE39
import Derived.Test.YtlcimajjnfbidaaGreatDoorE41
import Derived.Deep.AppendLies
import Derived.Test.YtlcimajjnfbidaaGreatDoorE10
import Derived.Test.YtlcimajjnfbidaaGreatDoorE23
import Derived.Deep.LoopGhost
import Derived.Test.YtlcimajjnfbidaaGreatDoorE40
import Derived.Deep.RegionHeld3
set_option linter.all false
set_option maxRecDepth 100000
set_option maxHeartbeats 40000000
namespace Go.Proofs.YtlcimajjnfbidaaGreatDoor.Rf
open Lib (hid)
open Go.RowKit
open Rx
open Vx (siz siz_num siz_den)
def NI (u:Value):Prop:=∀ (k:IntKind) (n:Int),u≠.int k n
def NoInt (w:World) (v:Value):Prop:=∀ g,v.ownBlock=some g→∀ (o:Nat) (u:Value),w.cell? ⟨g,o,none⟩=some u→NI u
theorem noint_cells {w:World} {g:Nat} {cs:Array Value} {T:TypeId} {fr:Nat × Nat} (hb:w.heap[g]?=some (.cells cs T fr)) (h:∀ u∈cs.toList,NI u):∀ (o:Nat) (u:Value),w.cell? ⟨g,o,none⟩=some u→NI u:=by
 intro o u hu
 rw [cell_of_row _ _ _ _ _ _ hb] at hu
 exact h u (List.mem_of_getElem? (by rw [Array.getElem?_toList];exact hu))
theorem ni_zero {z:Array Value} {n:Nat} (h0:0<z.size) (h:∀ u∈z.toList,NI u):∀ u∈(Builtin.zeroCells z n).toList,NI u:=by
 intro u hu
 simp only [Builtin.zeroCells,Array.toList_map,List.mem_map] at hu
 obtain ⟨i,-,rfl⟩:=hu
 have hlt:i%z.size<z.size:=Nat.mod_lt _ h0
 rw [getElem!_pos z _ hlt]
 exact h _ (Array.getElem_mem_toList hlt)
theorem ni_app {a b:List Value} (ha:∀ u∈a,NI u) (hb:∀ u∈b,NI u):∀ u∈a++b,NI u:=by
 intro u hu
 rcases List.mem_append.1 hu with h | h
 · exact ha u h
 · exact hb u h
theorem run_append_ni {P:Program} {w:World} {t ty e:TypeId} {base size bytes:Nat} {i:TypeInfo} {z v:Value} (ht:P.underlying t=some (.slice e)) (hi:P.info? e=some i) (hz:i.zero=some z)
   (hsize:i.size=size) (hby:i.bytes=bytes) (hzs:z.cells.size=size) (hsz:0<size) {n:Nat} {xs:List Value} (hown:w.ownsRow base e size v n xs)
   {ad:Addr} {m c:Nat} {news:List Value} (hl:news.length=m*size) (hnews:∀ j u,news[j]?=some u→w.cell? (ad.add j)=some u) (h1:∀ u∈news,u.oneCell'=true)
   (hm:0<m) (h63:n+m≤maxLen) (hbytes:(n+m)*bytes≤140737488355328) (hbase:base≤w.heap.size) (hni:NoInt w v) (hnn:∀ u∈news,NI u) (hzn:∀ u∈z.cells.toList,NI u) :
   ∃ g cap w',(Builtin.append_ #[t,t] ty #[v,.slice (some ad) m c]).run P w=.ok (.slice (some ⟨g,0,none⟩) (n+m) cap) w' ∧
     w'.ownsRow base e size (.slice (some ⟨g,0,none⟩) (n+m) cap) (n+m) (xs++news)∧w.grownBy w' v.ownBlock∧(v.ownBlock=some g∨g=w.heap.size)∧g<w'.heap.size∧NoInt w' (.slice (some ⟨g,0,none⟩) (n+m) cap):=by
 obtain ⟨g,cap,w',hr,h2,h3,h4,h5⟩:=run_append_lies (P:=P) w t ty base e i z size bytes ht hi hz hsize hby hzs hsz v n xs hown ad m c news hl hnews h1 hm h63 hbytes hbase w.heap.size rfl
 refine ⟨g,cap,w',hr,h2,h3,h4,h5,?_⟩
 subst hsize
 subst hby
 have big:n+m≤9223372036854775807:=by simp only [maxLen] at h63;omega
 have hz0:0<z.cells.size:=by omega
 have hxs:∀ u∈xs,NI u:=by
   intro u hu
   obtain ⟨j,hj⟩:=List.mem_iff_getElem?.1 hu
   rcases hown.2 with ⟨-,h0⟩ | ⟨g0,cap0,cur,hv,-,hg,-,-,-,htk⟩
   · have:=hown.1
     rw [h0,Nat.zero_mul] at this
     rw [List.eq_nil_of_length_eq_zero this] at hu
     cases hu
   · refine hni g0 (by rw [hv];rfl) j u ?_
     rw [cell_of_row _ _ _ _ _ _ hg,←Array.getElem?_toList]
     rw [←htk] at hj
     rw [List.getElem?_take] at hj
     split at hj
     · exact hj
     · cases hj
 have key:∀ (old:Nat) (cs:List Value),(∀ u∈cs,NI u)→∀ u':World,u'.heap[g]?=some (.cells (cs.toArray++Builtin.zeroCells z.cells old) e (0,0))→NoInt u' (.slice (some ⟨g,0,none⟩) (n+m) cap):=by
   intro old cs hcs u' hb g' hg'
   have:g=g':=Option.some.inj hg'
   subst this
   refine noint_cells hb ?_
   rw [Array.toList_append]
   exact ni_app hcs (ni_zero hz0 hzn)
 rcases hown.2 with ⟨rfl,rfl⟩ | ⟨g0,cap0,cur,rfl,hbg,hg,hnc,hcm,hcs,htk⟩
 · have hr2:=run_append_nil (P:=P) w t ty e i z ht hi hz ad m c news hl hnews (by omega) (by omega) (by have hb:=hbytes;simp only [Nat.zero_add] at hb;omega)
   rw [hr2] at hr
   injection hr with e1 e2
   injection e1 with e3 e4 e5
   injection e3 with e6
   injection e6 with e7
   refine key (grownCap w m 0 e - m) news hnn w' ?_
   rw [←e2,←e7]
   exact heap_alloc_new w.drew _
 · by_cases hroom:n+m≤cap0
   · have hfit:n*i.size+news.length≤cur.size:=by rw [hl,hcs,←Nat.add_mul];exact Nat.mul_le_mul_right _ hroom
     have hr2:=run_append_room (P:=P) w t ty e i ht hi g0 n cap0 cur hg ad m c news hl hnews h1 hroom hfit
     rw [hr2] at hr
     injection hr with e1 e2
     injection e1 with e3 e4 e5
     injection e3 with e6
     injection e6 with e7
     subst e7
     intro g' hg'
     have:g0=g':=Option.some.inj hg'
     subst this
     rw [←e2]
     refine noint_cells (setRow_heap w g0 cur _ e _ hg) ?_
     have hcur:∀ u∈cur.toList,NI u:=by
       intro u hu
       obtain ⟨j,hj⟩:=List.mem_iff_getElem?.1 hu
       exact hni g0 rfl j u (by rw [cell_of_row _ _ _ _ _ _ hg,←Array.getElem?_toList];exact hj)
     exact ni_app (ni_app (fun u hu=>hcur u (List.mem_of_mem_take hu)) hnn) (fun u hu=>hcur u (List.mem_of_mem_drop hu))
   · have holds:∀ j u,xs[j]?=some u→w.cell? ((⟨g0,0,none⟩:Addr).add j)=some u:=hown.cells (g:=g0) rfl
     have hr2:=run_append_grow (P:=P) w t ty e i z ht hi hz ⟨g0,0,none⟩ n cap0 xs hown.1 holds ad m c news hl hnews (by omega) (by omega) (growslice_fits (by omega) hbytes)
     rw [hr2] at hr
     injection hr with e1 e2
     injection e1 with e3 e4 e5
     injection e3 with e6
     injection e6 with e7
     refine key (grownCap w (n+m) cap0 e - (n+m)) (xs++news) (ni_app hxs hnn) w' ?_
     rw [←e2,←e7,←List.append_toArray]
     exact heap_alloc_new w.drew _
theorem wp_append_ni {P:Program} {o:Oper} {a:Act} {w:World} {K:Act→World→Prop} {Q:Exit→Act→World→Prop} {s x:Operand} {t:TypeId}
   (ho:o.op=.call { callee:=.builtin .append,args:=#[s,x],argTypes:=#[t,t] }) {base size bytes:Nat} {e:TypeId} {i:TypeInfo} {z:Value} (ht:P.underlying t=some (.slice e)) (hi:P.info? e=some i) (hz:i.zero=some z)
   (hsize:i.size=size) (hby:i.bytes=bytes) (hzs:z.cells.size=size) (hsz:0<size) {v:Value} {n:Nat} {xs:List Value} (hs:a.eval s=v) (hown:w.ownsRow base e size v n xs)
   {ad:Addr} {m c:Nat} {news:List Value} (hx:a.eval x=.slice (some ad) m c) (hl:news.length=m*size) (hnews:∀ j u,news[j]?=some u→w.cell? (ad.add j)=some u) (h1:∀ u∈news,u.oneCell'=true)
   (hm:0<m) (h63:n+m≤maxLen) (hbytes:(n+m)*bytes≤140737488355328) (hbase:base≤w.heap.size) (hni:NoInt w v) (hnn:∀ u∈news,NI u) (hzn:∀ u∈z.cells.toList,NI u)
   (h:∀ g cap w',w'.ownsRow base e size (.slice (some ⟨g,0,none⟩) (n+m) cap) (n+m) (xs++news)→w.grownBy w' v.ownBlock→(v.ownBlock=some g∨g=w.heap.size)→g<w'.heap.size→NoInt w' (.slice (some ⟨g,0,none⟩) (n+m) cap) →
     K (a.put o.dst (.slice (some ⟨g,0,none⟩) (n+m) cap)) w'):o.wp P a w K Q:=by
 obtain ⟨g,cap,w',hr,h2,h3,h4,h5,h6⟩:=run_append_ni (P:=P) (ty:=o.type) ht hi hz hsize hby hzs hsz hown hl hnews h1 hm h63 hbytes hbase hni hnn hzn (c:=c)
 unfold Oper.wp execOp
 simp only [ho,resolve,invoke,builtin,Sem.run_bind,Sem.run_pure,Result.andThen_ok,List.map_toArray,List.map_cons,List.map_nil,hs,hx,hr]
 exact h g cap w' h2 h3 h4 h5 h6
theorem live_grown {w w':World} {v:Value} (hni:NoInt w v) (hg:w.grownBy w' v.ownBlock):Live w w':=by
 have hb:∀ (g o:Nat) (n:Int) (k:IntKind),w.cell? ⟨g,o,none⟩=some (.int k n)→some g≠v.ownBlock:=fun g o n k hc he=>hni g he.symm o _ hc k n rfl
 have hN:∀ x z,Nt w x z→Nt w' x z:=by
   rintro x z ⟨A,c,h1,h2,h3,h4,h5⟩
   refine ⟨A,c,h1,h2,h3,h4,fun hx=>?_⟩
   obtain ⟨b,o,h6,h7,h8⟩:=h5 hx
   have hne:some b≠v.ownBlock:=hb b (o+0) _ _ (h8 0 (Vx.len_pos.2 hx))
   exact ⟨b,o,h6,Nat.lt_of_lt_of_le h7 hg.size,fun j hj=>(hg.cell_far ⟨b,o+j,none⟩ h7 hne).trans (h8 j hj)⟩
 have hB:∀ x z,IsBig w x z→IsBig w' x z:=by
   rintro x z ⟨A,c,h1,h2,h3,h4,h5⟩
   refine ⟨A,c,h1,h2,h3,h4,fun hx=>?_⟩
   obtain ⟨b,o,h6,h7,h8⟩:=h5 hx
   have hne:some b≠v.ownBlock:=hb b (o+0) _ _ (h8 0 hx)
   exact ⟨b,o,h6,Nat.lt_of_lt_of_le h7 hg.size,fun j hj=>(hg.cell_far ⟨b,o+j,none⟩ h7 hne).trans (h8 j hj)⟩
 exact ⟨fun x z h=>hN x z h,fun x z h=>hB x z h⟩
def Els (I:Value→Rat→Prop):List Value→List Rat→Prop
  | [],[]=>True
  | a::b::c::xs,q::l=>I (.agg #[a,b,c]) q∧Els I xs l
  | _,_=>False
theorem Els.mono {I J:Value→Rat→Prop} (hI:∀ v q,I v q→J v q):∀ {l:List Rat} {xs:List Value},Els I xs l→Els J xs l
 | [],[],_=>trivial
 | _::_,_::_::_::_,h=>⟨hI _ _ h.1,h.2.mono hI⟩
 | _::_,[],h=>h.elim
 | _::_,[_],h=>h.elim
 | _::_,[_,_],h=>h.elim
 | [],[_],h=>h.elim
 | [],[_,_],h=>h.elim
 | [],_::_::_::_,h=>h.elim
theorem Els.snoc {I:Value→Rat→Prop} {a b c:Value} {q:Rat} (hq:I (.agg #[a,b,c]) q):∀ {l:List Rat} {xs:List Value},Els I xs l→Els I (xs++[a,b,c]) (l++[q])
 | [],[],_=>⟨hq,trivial⟩
 | _::_,_::_::_::_,h=>⟨h.1,h.2.snoc hq⟩
 | _::_,[],h=>h.elim
 | _::_,[_],h=>h.elim
 | _::_,[_,_],h=>h.elim
 | [],[_],h=>h.elim
 | [],[_,_],h=>h.elim
 | [],_::_::_::_,h=>h.elim
theorem Els.length {I:Value→Rat→Prop}:∀ {l:List Rat} {xs:List Value},Els I xs l→xs.length=l.length*3
 | [],[],_=>rfl
 | _::_,_::_::_::_,h=>by have:=h.2.length;simp only [List.length_cons];omega
 | _::_,[],h=>h.elim
 | _::_,[_],h=>h.elim
 | _::_,[_,_],h=>h.elim
 | [],[_],h=>h.elim
 | [],[_,_],h=>h.elim
 | [],_::_::_::_,h=>h.elim
theorem Els.get {I:Value→Rat→Prop}:∀ {l:List Rat} {xs:List Value} {i:Nat} {q:Rat},Els I xs l→l[i]?=some q→∃ a b c,xs[i*3]?=some a∧xs[i*3+1]?=some b∧xs[i*3+2]?=some c∧I (.agg #[a,b,c]) q
 | _::_,a::b::c::_,0,_,h,e=>by
   obtain rfl:=Option.some.inj e
   exact ⟨a,b,c,rfl,rfl,rfl,h.1⟩
 | _::_,a::b::c::_,i+1,_,h,e=>by
   obtain ⟨x,y,z,h1,h2,h3,h4⟩:=Els.get (i:=i) h.2 e
   have e3:(i+1)*3=i*3+3:=by omega
   have e4:(i+1)*3+1=i*3+1+3:=by omega
   have e5:(i+1)*3+2=i*3+2+3:=by omega
   exact ⟨x,y,z,by rw [e3];exact h1,by rw [e4];exact h2,by rw [e5];exact h3,h4⟩
 | _::_,[],_,_,h,_=>h.elim
 | _::_,[_],_,_,h,_=>h.elim
 | _::_,[_,_],_,_,h,_=>h.elim
 | [],_,_,_,_,e=>by simp at e
def Grow (I:World→Value→Rat→Prop) (T:TypeId) (B:Nat) (w:World) (v:Value) (l:List Rat):Prop :=
  ∃ g cap xs,v=.slice (some ⟨g,0,none⟩) l.length cap∧w.ownsRow B T 3 v l.length xs∧NoInt w v∧Els (I w) xs l
theorem ownsRow_block {w w':World} {B:Nat} {T:TypeId} {v:Value} {n:Nat} {xs:List Value} (h:w.ownsRow B T 3 v n xs) (hb:∀ g,v.ownBlock=some g→g<w.heap.size→w'.heap[g]?=w.heap[g]?):w'.ownsRow B T 3 v n xs:=by
 refine ⟨h.1,?_⟩
 rcases h.2 with h0 | ⟨g,cap,cur,hv,h1,h2,h3⟩
 · exact Or.inl h0
 · exact Or.inr ⟨g,cap,cur,hv,h1,(hb g (by rw [hv];rfl) (Array.getElem?_eq_some_iff.1 h2).1).trans h2,h3⟩
theorem noInt_block {w w':World} {v:Value} (h:NoInt w v) (hl:∀ g,v.ownBlock=some g→g<w.heap.size) (hb:∀ g,v.ownBlock=some g→g<w.heap.size→w'.heap[g]?=w.heap[g]?):NoInt w' v:=by
 intro g hg o u hu
 rw [World.cell?_of_block (a:=⟨g,o,none⟩) (hb g hg (hl g hg))] at hu
 exact h g hg o u hu
theorem Grow.block {I:World→Value→Rat→Prop} {T:TypeId} {B:Nat} {w w':World} {v:Value} {l:List Rat} (h:Grow I T B w v l) (hb:∀ g,v.ownBlock=some g→g<w.heap.size→w'.heap[g]?=w.heap[g]?) (hI:∀ v q,I w v q→I w' v q):Grow I T B w' v l:=by
 obtain ⟨g,cap,xs,hv,h1,h2,h3⟩:=h
 exact ⟨g,cap,xs,hv,ownsRow_block h1 hb,noInt_block h2 (fun k hk=>(h1.lt k hk).2) hb,h3.mono hI⟩
theorem Grow.keep {I:World→Value→Rat→Prop} {T:TypeId} {B:Nat} {w w':World} {v:Value} {l:List Rat} (h:Grow I T B w v l) (hb:Below w.heap.size w w') (hI:∀ v q,I w v q→I w' v q):Grow I T B w' v l:=h.block (fun g _ hlt=>hb.block g hlt) hI
theorem Grow.other {I:World→Value→Rat→Prop} {T:TypeId} {B:Nat} {w w':World} {v v':Value} {l:List Rat} (h:Grow I T B w v l) (hg:w.grownBy w' v'.ownBlock) (hne:∀ g,v.ownBlock=some g→v'.ownBlock≠some g) (hI:∀ v q,I w v q→I w' v q):Grow I T B w' v l :=
 h.block (fun g hv hlt=>hg.block g hlt (fun e=>hne g hv e.symm)) hI
theorem Grow.push {I:World→Value→Rat→Prop} {T:TypeId} {B:Nat} {w w':World} {l:List Rat} {g cap:Nat} {xs:List Value} {a b c:Value} {q:Rat} (hx:Els (I w) xs l) (hI:∀ v q,I w v q→I w' v q) (hq:I w' (.agg #[a,b,c]) q)
   (hown:w'.ownsRow B T 3 (.slice (some ⟨g,0,none⟩) (l.length+1) cap) (l.length+1) (xs++[a,b,c])) (hni:NoInt w' (.slice (some ⟨g,0,none⟩) (l.length+1) cap)):Grow I T B w' (.slice (some ⟨g,0,none⟩) (l.length+1) cap) (l++[q]):=by
 have e:(l++[q]).length=l.length+1:=by simp
 exact ⟨g,cap,xs++[a,b,c],by rw [e],by rw [e];exact hown,hni,(hx.mono hI).snoc hq⟩
def NumsAt (w:World) (b o:Nat) (l:List Rat):Prop:=∀ (i:Nat) (q:Rat),l[i]?=some q→∃ s A1 n1 c1 A2 n2 c2,w.cell? ⟨b,o+i*3,none⟩=some (.bool s)∧w.cell? ⟨b,o+i*3+1,none⟩=some (.slice A1 n1 c1)∧w.cell? ⟨b,o+i*3+2,none⟩=some (.slice A2 n2 c2)∧IsNum w (.agg #[.bool s,.slice A1 n1 c1,.slice A2 n2 c2]) q
def RatsIn (w:World) (b o:Nat) (l:List Rat):Prop:=∀ (i:Nat) (q:Rat),l[i]?=some q→∃ s A1 n1 c1 A2 n2 c2,w.cell? ⟨b,o+i*3,none⟩=some (.bool s)∧w.cell? ⟨b,o+i*3+1,none⟩=some (.slice A1 n1 c1)∧w.cell? ⟨b,o+i*3+2,none⟩=some (.slice A2 n2 c2)∧IsRat w (.agg #[.bool s,.slice A1 n1 c1,.slice A2 n2 c2]) q
theorem NumsAt.keep {w w':World} {b o:Nat} {l:List Rat} (h:NumsAt w b o l) (hb:Below w.heap.size w w'):NumsAt w' b o l:=by
 intro i q hi
 obtain ⟨s,A1,n1,c1,A2,n2,c2,h0,h1,h2,h3⟩:=h i q hi
 have hl:=World.block_lt_of_cell? w _ h0
 exact ⟨s,A1,n1,c1,A2,n2,c2,(hb.cell (p:=⟨b,o+i*3,none⟩) hl).trans h0,(hb.cell (p:=⟨b,o+i*3+1,none⟩) hl).trans h1,(hb.cell (p:=⟨b,o+i*3+2,none⟩) hl).trans h2,h3.keep hb⟩
theorem RatsIn.keep {w w':World} {b o:Nat} {l:List Rat} (h:RatsIn w b o l) (hb:Below w.heap.size w w'):RatsIn w' b o l:=by
 intro i q hi
 obtain ⟨s,A1,n1,c1,A2,n2,c2,h0,h1,h2,h3⟩:=h i q hi
 have hl:=World.block_lt_of_cell? w _ h0
 exact ⟨s,A1,n1,c1,A2,n2,c2,(hb.cell (p:=⟨b,o+i*3,none⟩) hl).trans h0,(hb.cell (p:=⟨b,o+i*3+1,none⟩) hl).trans h1,(hb.cell (p:=⟨b,o+i*3+2,none⟩) hl).trans h2,h3.keep hb⟩
theorem row_cell {w:World} {B:Nat} {T:TypeId} {g n cap:Nat} {xs:List Value} {j:Nat} {u:Value} (h:w.ownsRow B T 3 (.slice (some ⟨g,0,none⟩) n cap) n xs) (hj:xs[j]?=some u):w.cell? ⟨g,0+j,none⟩=some u:=by
 have:=h.cells (g:=g) rfl j u hj
 rw [Addr.add_lit] at this
 exact this
theorem Grow.nums {T:TypeId} {B:Nat} {w:World} {v:Value} {l:List Rat} (h:Grow IsNum T B w v l):∃ g cap,v=.slice (some ⟨g,0,none⟩) l.length cap∧NumsAt w g 0 l:=by
 obtain ⟨g,cap,xs,rfl,h1,-,h3⟩:=h
 refine ⟨g,cap,rfl,fun i q hi=>?_⟩
 obtain ⟨a,b,c,e1,e2,e3,hq⟩:=h3.get hi
 obtain ⟨A1,c1,A2,c2,he,-,-⟩:=id hq.opened
 injection he with he
 injection he with he
 simp only [List.cons.injEq] at he
 obtain ⟨rfl,rfl,rfl,-⟩:=he
 exact ⟨_,_,_,_,_,_,_,row_cell h1 e1,row_cell h1 e2,row_cell h1 e3,hq⟩
theorem Grow.rats {T:TypeId} {B:Nat} {w:World} {v:Value} {l:List Rat} (h:Grow IsRat T B w v l):∃ g cap,v=.slice (some ⟨g,0,none⟩) l.length cap∧RatsIn w g 0 l:=by
 obtain ⟨g,cap,xs,rfl,h1,-,h3⟩:=h
 refine ⟨g,cap,rfl,fun i q hi=>?_⟩
 obtain ⟨a,b,c,e1,e2,e3,hq⟩:=h3.get hi
 obtain ⟨A1,c1,A2,c2,he,-,-⟩:=id hq.opened
 injection he with he
 injection he with he
 simp only [List.cons.injEq] at he
 obtain ⟨rfl,rfl,rfl,-⟩:=he
 exact ⟨_,_,_,_,_,_,_,row_cell h1 e1,row_cell h1 e2,row_cell h1 e3,hq⟩
end Go.Proofs.YtlcimajjnfbidaaGreatDoor.Rf
namespace Go.Proofs.YtlcimajjnfbidaaGreatDoor
open Lib (hid)
open Vx
theorem div_nonneg {a g:Rat} (hg:0<g) (ha:0≤a):0≤a / g:=by
 rw [Rat.div_def];exact Rat.mul_nonneg ha (Rat.le_of_lt (Rat.inv_pos.2 hg))
theorem nat_le {a b:Nat} (h:a≤b):(a:Rat)≤(b:Rat):=Rat.natCast_le_natCast.2 h
theorem div_mono {a b g:Rat} (hg:0<g) (h:a≤b):a / g≤b / g:=by
 rw [Rat.div_def,Rat.div_def];exact Rat.mul_le_mul_of_nonneg_right h (Rat.le_of_lt (Rat.inv_pos.2 hg))
theorem place_frac {p:Nat} (hp:p≤255):0≤mkRat ((p:Nat):Int) 255∧mkRat ((p:Nat):Int) 255≤1:=by
 have e:mkRat ((p:Nat):Int) 255=(p:Rat) / ((255:Nat):Rat):=by rw [Rat.mkRat_eq_div];rfl
 have h255:(0:Rat)<((255:Nat):Rat):=by decide +kernel
 have h0:(0:Rat)≤(p:Rat):=nat_le (Nat.zero_le p)
 rw [e]
 refine ⟨div_nonneg h255 h0,?_⟩
 have h1:=div_mono h255 (nat_le hp)
 rw [show ((255:Nat):Rat) / ((255:Nat):Rat)=1 by decide +kernel] at h1
 exact h1
theorem place_between {a b:Rat} {p:Nat} (hp:p≤255) (h:a≤b):a≤a+(b - a)*mkRat ((p:Nat):Int) 255∧a+(b - a)*mkRat ((p:Nat):Int) 255≤b:=by
 obtain ⟨h0,h1⟩:=place_frac hp
 have hd:0≤b - a:=by grind
 have h2:=Rat.mul_nonneg hd h0
 have h3:=Rat.mul_le_mul_of_nonneg_left h1 hd
 constructor <;> grind
end Go.Proofs.YtlcimajjnfbidaaGreatDoor
namespace Go.Proofs.YtlcimajjnfbidaaGreatDoor
open Lib (hid)
open Vx
theorem flr_floor (x:Rat):flr x=(x.floor:Rat):=by
 unfold flr
 rw [Rat.floor_def,Rat.mkRat_one]
theorem flr_le (x:Rat):flr x≤x:=by rw [flr_floor];exact Rat.floor_le x
theorem lt_flr (x:Rat):x<flr x+1:=by
 have h:=Rat.lt_floor_add_one x
 rw [Rat.intCast_add] at h
 rw [flr_floor];exact h
theorem div_mul_pos {a g:Rat} (hg:0<g):a / g*g=a:=Rat.div_mul_cancel (by intro h;rw [h] at hg;exact absurd hg (by decide))
theorem out_low {a g:Rat} (hg:0<g):flr (a / g)*g≤a:=by
 have h:=Rat.mul_le_mul_of_nonneg_right (flr_le (a / g)) (Rat.le_of_lt hg)
 rw [div_mul_pos hg] at h;exact h
theorem out_low2 {a g:Rat} (hg:0<g):a<flr (a / g)*g+g:=by
 have h:=Rat.mul_lt_mul_of_pos_right (lt_flr (a / g)) hg
 rw [div_mul_pos hg] at h
 rw [Rat.add_mul,Rat.one_mul] at h;exact h
theorem out_high {b g:Rat} (hg:0<g):b ≤ -flr (-(b / g))*g:=by
 have h:=Rat.mul_le_mul_of_nonneg_right (flr_le (-(b / g))) (Rat.le_of_lt hg)
 have e:=div_mul_pos (a:=b) hg
 grind
theorem out_high2 {b g:Rat} (hg:0<g) : -flr (-(b / g))*g - g<b:=by
 have h:=Rat.mul_lt_mul_of_pos_right (lt_flr (-(b / g))) hg
 have e:=div_mul_pos (a:=b) hg
 grind
theorem flr_nat {x:Rat} (h:0≤x):flr x=(((flr x).num.natAbs:Nat):Rat):=by
 have h1:0≤x.floor:=by rw [Rat.le_floor_iff];exact h
 rw [flr_floor,Rat.num_intCast]
 obtain ⟨n,hn⟩:=Int.eq_ofNat_of_zero_le h1
 rw [hn];simp [Rat.intCast_natCast]
theorem ceil_nat {x:Rat} (h:0≤x) : -flr (-x)=(((-flr (-x)).num.natAbs:Nat):Rat):=by
 have h2:(-x).floor≤0:=by
   have h3:=Rat.floor_le (-x)
   have h4:(((-x).floor:Int):Rat)≤((0:Int):Rat):=by
     refine Rat.le_trans h3 ?_
     have:((0:Int):Rat)=0:=rfl
     rw [this];grind
   exact Rat.intCast_le_intCast.1 h4
 have e : -flr (-x)=((-(-x).floor:Int):Rat):=by rw [flr_floor,Rat.intCast_neg]
 rw [e,Rat.num_intCast]
 obtain ⟨n,hn⟩:=Int.eq_ofNat_of_zero_le (show 0 ≤ -(-x).floor by omega)
 rw [hn];simp [Rat.intCast_natCast]
theorem up_sq (h:Nat):h≤upRoot h*upRoot h:=by
 unfold upRoot
 have h1:=root_lt h
 split
 · omega
 · rename_i h2;omega
theorem up_below {h m:Nat} (e:upRoot h=m+1):m*m<h:=by
 unfold upRoot at e
 split at e
 · rename_i h2;rw [show m=rootOf h by omega];exact h2
 · rename_i h2
   have h1:=root_sq h
   have:m*m<rootOf h*rootOf h:=by
     rw [e];exact Nat.mul_self_lt_mul_self (by omega)
   omega
theorem up_least {h m:Nat} (hm:h≤m*m):upRoot h≤m:=by
 rcases Nat.lt_or_ge m (upRoot h) with h1 | h1
 · obtain ⟨k,hk⟩:∃ k,upRoot h=k+1:=⟨upRoot h - 1,by omega⟩
   have h2:=up_below hk
   have h3:m*m≤k*k:=Nat.mul_le_mul (by omega) (by omega)
   omega
 · exact h1
def lowRt (a g:Rat):Rat:=((rootOf (flr (a / (g*g))).num.natAbs:Nat):Rat)*g
def highRt (b g:Rat):Rat:=((upRoot (-flr (-(b / (g*g)))).num.natAbs:Nat):Rat)*g
theorem sq_pos {g:Rat} (hg:0<g):0<g*g:=Rat.mul_pos hg hg
theorem low_nonneg {a g:Rat} (hg:0<g):0≤lowRt a g:=Rat.mul_nonneg (by exact nat_le (Nat.zero_le _)) (Rat.le_of_lt hg)
theorem low_sq {a g:Rat} (hg:0<g) (ha:0≤a):lowRt a g*lowRt a g≤a:=by
 have hq:=sq_pos hg
 have h0:=div_nonneg hq ha
 unfold lowRt
 have h1:=flr_nat h0
 have h2:=flr_le (a / (g*g))
 obtain ⟨N,hN⟩:=eX ((flr (a / (g*g))).num.natAbs)
 rw [←hN] at h1 ⊢
 rw [h1] at h2
 have h3:=nat_le (root_sq N)
 rw [Rat.natCast_mul] at h3
 have h4:=Rat.mul_le_mul_of_nonneg_right (Rat.le_trans h3 h2) (Rat.le_of_lt hq)
 rw [div_mul_pos hq] at h4
 grind
theorem low_up {a g:Rat} (hg:0<g) (ha:0≤a):a<(lowRt a g+g)*(lowRt a g+g):=by
 have hq:=sq_pos hg
 have h0:=div_nonneg hq ha
 unfold lowRt
 have h1:=flr_nat h0
 have h2:=lt_flr (a / (g*g))
 obtain ⟨N,hN⟩:=eX ((flr (a / (g*g))).num.natAbs)
 rw [←hN] at h1 ⊢
 rw [h1] at h2
 have h3:=nat_le (show N+1≤(rootOf N+1)*(rootOf N+1) from root_lt N)
 rw [Rat.natCast_mul,Rat.natCast_add,Rat.natCast_add] at h3
 have h6:((1:Nat):Rat)=1:=rfl
 rw [h6] at h3
 have h4:=Rat.mul_lt_mul_of_pos_right (show a / (g*g)<((rootOf N:Rat)+1)*((rootOf N:Rat)+1) by grind) hq
 rw [div_mul_pos hq] at h4
 grind
theorem high_sq {b g:Rat} (hg:0<g) (hb:0≤b):b≤highRt b g*highRt b g:=by
 have hq:=sq_pos hg
 have h0:=div_nonneg hq hb
 unfold highRt
 have h1:=ceil_nat h0
 have h2:=flr_le (-(b / (g*g)))
 obtain ⟨N,hN⟩:=eX ((-flr (-(b / (g*g)))).num.natAbs)
 rw [←hN] at h1 ⊢
 have h3:=nat_le (up_sq N)
 rw [Rat.natCast_mul] at h3
 have h5:b / (g*g)≤(upRoot N:Rat)*(upRoot N:Rat):=by grind
 have h4:=Rat.mul_le_mul_of_nonneg_right h5 (Rat.le_of_lt hq)
 rw [div_mul_pos hq] at h4
 grind
theorem high_down {b g:Rat} (hg:0<g) (hb:0≤b) (h:0≤highRt b g - g):(highRt b g - g)*(highRt b g - g)<b:=by
 have hq:=sq_pos hg
 have h0:=div_nonneg hq hb
 unfold highRt at h ⊢
 have h1:=ceil_nat h0
 have h2:=lt_flr (-(b / (g*g)))
 obtain ⟨N,hN⟩:=eX ((-flr (-(b / (g*g)))).num.natAbs)
 rw [←hN] at h1 h ⊢
 rcases hm:upRoot N with _ | m
 · exfalso
   rw [hm] at h
   have:((0:Nat):Rat)=0:=rfl
   rw [this] at h
   grind
 · have h3:=nat_le (show m*m+1≤N from up_below hm)
   rw [Rat.natCast_add,Rat.natCast_mul] at h3
   have h6:((1:Nat):Rat)=1:=rfl
   rw [h6] at h3
   have h5:(m:Rat)*(m:Rat)<b / (g*g):=by grind
   have h4:=Rat.mul_lt_mul_of_pos_right h5 hq
   rw [div_mul_pos hq] at h4
   rw [Rat.natCast_add,h6]
   grind
theorem flr_mono {x y:Rat} (h:x≤y):flr x≤flr y:=by
 rw [flr_floor,flr_floor];exact Rat.intCast_le_intCast.2 (Rat.floor_monotone h)
theorem root_mono {a b:Nat} (h:a≤b):rootOf a≤rootOf b:=root_max (Nat.le_trans (root_sq a) h)
theorem up_mono {a b:Nat} (h:a≤b):upRoot a≤upRoot b:=up_least (Nat.le_trans h (up_sq b))
theorem low_mono {a b g:Rat} (hg:0<g) (ha:0≤a) (h:a≤b):lowRt a g≤lowRt b g:=by
 have hq:=sq_pos hg
 have h1:=flr_nat (div_nonneg hq ha)
 have h2:=flr_nat (div_nonneg hq (Rat.le_trans ha h))
 have h3:=flr_mono (div_mono hq h)
 rw [h1,h2] at h3
 exact Rat.mul_le_mul_of_nonneg_right (nat_le (root_mono (Rat.natCast_le_natCast.1 h3))) (Rat.le_of_lt hg)
theorem high_mono {a b g:Rat} (hg:0<g) (ha:0≤a) (h:a≤b):highRt a g≤highRt b g:=by
 have hq:=sq_pos hg
 have h1:=ceil_nat (div_nonneg hq ha)
 have h2:=ceil_nat (div_nonneg hq (Rat.le_trans ha h))
 have h3:=div_mono hq h
 have h4:=flr_mono (show -(b / (g*g)) ≤ -(a / (g*g)) by grind)
 have h5 : -flr (-(a / (g*g))) ≤ -flr (-(b / (g*g))):=by grind
 rw [h1,h2] at h5
 exact Rat.mul_le_mul_of_nonneg_right (nat_le (up_mono (Rat.natCast_le_natCast.1 h5))) (Rat.le_of_lt hg)
theorem root_near {x g:Rat} (hg:0<g) (hx:0≤x):highRt x g - lowRt x g<g+g:=by
 have hq:=sq_pos hg
 have h0:=div_nonneg hq hx
 have h1:=ceil_nat h0
 have h2:=flr_nat h0
 have h3:=lt_flr (x / (g*g))
 have h4:=lt_flr (-(x / (g*g)))
 unfold highRt lowRt
 obtain ⟨M,hM⟩:=eX ((-flr (-(x / (g*g)))).num.natAbs)
 obtain ⟨N,hN⟩:=eX ((flr (x / (g*g))).num.natAbs)
 rw [←hM] at h1 ⊢
 rw [←hN] at h2 ⊢
 have h6:((1:Nat):Rat)=1:=rfl
 have h5:(M:Rat)<((N+2:Nat):Rat):=by
   rw [Rat.natCast_add]
   have:((2:Nat):Rat)=2:=rfl
   rw [this];grind
 have h7:M≤N+1:=by have:=Rat.natCast_lt_natCast.1 h5;omega
 have h8:upRoot M≤rootOf N+1:=up_least (Nat.le_trans h7 (root_lt N))
 have h9:=nat_le h8
 rw [Rat.natCast_add,h6] at h9
 have h10:=Rat.mul_le_mul_of_nonneg_right h9 (Rat.le_of_lt hg)
 grind
theorem num_pos {q:Rat}:0<q.num↔0<q:=by
 have h:=Rat.num_nonneg (q := -q)
 rw [Rat.neg_num] at h
 constructor
 · intro h1
   rcases Decidable.em (0<q) with h2 | h2
   · exact h2
   · have:=h.2 (by grind)
     omega
 · intro h1
   rcases Decidable.em (0<q.num) with h2 | h2
   · exact h2
   · have:=h.1 (by omega)
     grind
theorem num_nonneg {q:Rat}:0≤q.num↔0≤q:=by rw [Rat.num_nonneg]
end Go.Proofs.YtlcimajjnfbidaaGreatDoor
namespace Go.Proofs.YtlcimajjnfbidaaGreatDoor
open Lib (hid)
open Go.RowKit
open Vx
theorem mul_q {w:World} {vx vy:Value} {x y q:Rat} (hq:x*y=q) (hx:IsNum w vx x) (hy:IsNum w vy y) (hs:siz x≤34359738368) (ht:siz y≤34359738368) :
   Calls Tryz.prog 46 #[vx,vy] w (NumRet w q):=by rw [←hq];exact numMul_any hx hy hs ht
theorem over_q {w:World} {vx vy:Value} {x y q:Rat} (hq:x / y=q) (hx:IsNum w vx x) (hy:IsNum w vy y) (hs:siz x≤34359738368) (ht:siz y≤34359738368) :
   Calls Tryz.prog 80 #[vx,vy] w (NumRet w q):=by rw [←hq];exact numOver_any hx hy hs ht
theorem floor_q {w:World} {vx:Value} {x q:Rat} (hq:flr x=q) (hx:IsNum w vx x) (hs:siz x≤34359738368) :
   Calls Tryz.prog 109 #[vx] w (NumRet w q):=by rw [←hq];exact numFloor_any hx hs
theorem ceil_q {w:World} {vx:Value} {x q:Rat} (hq : -flr (-x)=q) (hx:IsNum w vx x) (hs:siz x≤34359738368) :
   Calls Tryz.prog 110 #[vx] w (NumRet w q):=by rw [←hq];exact numCeil_any hx hs
end Go.Proofs.YtlcimajjnfbidaaGreatDoor
namespace Go.Proofs.YtlcimajjnfbidaaGreatDoor
open Lib (hid)
open Go.RowKit
open Vx
theorem root_val' {w:World} {v vg:Value} {a b g p q:Rat} (h1:lowRt a g=p) (h2:highRt b g=q) (hv:IsBox w v a b) (hg:IsNum w vg g) (sa:siz a≤1048576) (sb:siz b≤1048576) (sg:siz g≤1048576) (hpos:0<g.num) (hmin:0≤a.num) :
   Calls Tryz.prog 57 #[v,vg] w (BoxErrRet w p q 0) :=
 boxRoot_to hv hg sa sb sg hpos hmin rfl rfl rfl rfl rfl rfl rfl h1.symm h2.symm
theorem up_le (h:Nat):upRoot h≤h:=up_least (by
 rcases Nat.eq_zero_or_pos h with h0 | h0
 · rw [h0];exact Nat.le_refl _
 · exact Nat.le_mul_of_pos_left h h0)
theorem siz_low {a g:Rat} {A G:Nat} (ha:siz a≤A) (hg:siz g≤G):siz (lowRt a g)≤A+3*G+1:=by
 unfold lowRt
 have h1:=siz_mul ((rootOf (flr (a / (g*g))).num.natAbs:Nat):Rat) g
 have h2:=siz_nat (rootOf (flr (a / (g*g))).num.natAbs)
 have h3:=len_mono (rootOf_le (flr (a / (g*g))).num.natAbs)
 have h4:=siz_num (flr (a / (g*g)))
 have h5:=siz_flr (a / (g*g))
 have h6:=siz_div a (g*g)
 have h7:=siz_mul g g
 omega
theorem siz_high {a g:Rat} {A G:Nat} (ha:siz a≤A) (hg:siz g≤G):siz (highRt a g)≤A+3*G+1:=by
 unfold highRt
 have h1:=siz_mul ((upRoot (-flr (-(a / (g*g)))).num.natAbs:Nat):Rat) g
 have h2:=siz_nat (upRoot (-flr (-(a / (g*g)))).num.natAbs)
 have h3:=len_mono (up_le (-flr (-(a / (g*g)))).num.natAbs)
 have h4:=siz_num (-flr (-(a / (g*g))))
 have h5:=siz_flr (-(a / (g*g)))
 have h6:=siz_div a (g*g)
 have h7:=siz_mul g g
 rw [siz_neg] at h4 h5
 omega
end Go.Proofs.YtlcimajjnfbidaaGreatDoor
namespace Go.Proofs.YtlcimajjnfbidaaGreatDoor
open Lib (hid)
open Vx
def rootk (x g:Rat):Nat:=rootOf (flr (x / (g*g))).num.natAbs
theorem low_rootk (x g:Rat):((rootk x g:Nat):Rat)*g=lowRt x g:=rfl
theorem sq_mono {a b:Rat} (h0:0≤a) (h:a≤b):a*a≤b*b:=Rat.le_trans (Rat.mul_le_mul_of_nonneg_left h h0) (Rat.mul_le_mul_of_nonneg_right h (Rat.le_trans h0 h))
theorem fits_le {x g:Rat} {N:Nat} (hg:0<g) (hx:0≤x):decide ((((N:Nat):Rat)*g)*(((N:Nat):Rat)*g)≤x)=decide (N≤rootk x g):=by
 have hg0:=Rat.le_of_lt hg
 have h0:0≤((N:Nat):Rat)*g:=Rat.mul_nonneg (nat_le (Nat.zero_le N)) hg0
 apply decide_eq_decide.2
 constructor
 · intro h
   rcases Nat.lt_or_ge (rootk x g) N with k | k
   · have h1:=Rat.mul_le_mul_of_nonneg_right (nat_le (show rootk x g+1≤N from k)) hg0
     rw [Rat.natCast_add,Rat.add_mul,low_rootk,show (((1:Nat):Rat))*g=g by rw [show ((1:Nat):Rat)=1 from rfl,Rat.one_mul]] at h1
     have h2:=low_nonneg (a:=x) hg
     have h3:0≤lowRt x g+g:=by grind
     have h4:=sq_mono h3 h1
     have h5:=low_up hg hx
     exact absurd (Rat.le_trans h4 h) (Rat.not_le.2 h5)
   · exact k
 · intro k
   have h1:=Rat.mul_le_mul_of_nonneg_right (nat_le k) hg0
   rw [low_rootk] at h1
   exact Rat.le_trans (sq_mono h0 h1) (low_sq hg hx)
theorem len_rootk {x g:Rat} {A G:Nat} (ha:siz x≤A) (hg:siz g≤G):len (rootk x g)≤A+2*G:=by
 unfold rootk
 refine Nat.le_trans (len_mono (rootOf_le _)) ?_
 have h1:=siz_num (flr (x / (g*g)))
 have h2:=siz_flr (x / (g*g))
 have h3:=siz_div x (g*g)
 have h4:=siz_mul g g
 omega
theorem len_up {r n A:Nat} (h:len r≤A) (hn:n≤4*r+4):len n≤A+3:=by
 refine Nat.le_trans (len_mono hn) ?_
 have h1:=len_add_le (4*r) 4
 have h2:=len_mul_le 4 r
 have h3:len 4=1:=by decide +kernel
 omega
theorem high_low {x g:Rat} (hg:0<g) (hx:0≤x):highRt x g=if lowRt x g*lowRt x g<x then lowRt x g+g else lowRt x g:=by
 have hg0:=Rat.le_of_lt hg
 have a1:=low_sq hg hx
 have a2:=low_up hg hx
 have a3:=high_sq hg hx
 have a4:highRt x g - lowRt x g<g+g:=root_near hg hx
 have a5:=low_nonneg (a:=x) hg
 obtain ⟨u,hu⟩:∃ u:Nat,highRt x g=((u:Nat):Rat)*g:=⟨_,rfl⟩
 have hl:=low_rootk x g
 obtain ⟨r,hr⟩:=eY (rootk x g)
 rw [hr] at hl
 -- whole numbers
 have mono:∀ a b:Nat,a≤b→((a:Nat):Rat)*g≤((b:Nat):Rat)*g:=fun a b h=>Rat.mul_le_mul_of_nonneg_right (nat_le h) hg0
 have suc:∀ a:Nat,(((a+1:Nat)):Rat)*g=((a:Nat):Rat)*g+g:=fun a=>by
   rw [Rat.natCast_add,Rat.add_mul,show (((1:Nat):Rat))*g=g by rw [show ((1:Nat):Rat)=1 from rfl,Rat.one_mul]]
 have hu2:u≤r+1:=by
   rcases Nat.lt_or_ge (r+1) u with k | k
   · have h1:=mono _ _ (show r+2≤u from k)
     rw [suc (r+1),suc r,hl,←hu] at h1
     exact absurd a4 (Rat.not_lt.2 (by grind))
   · exact k
 rcases Decidable.em (lowRt x g*lowRt x g<x) with h | h
 · rw [if_pos h]
   rcases Nat.lt_or_ge r u with k | k
   · obtain rfl:u=r+1:=by omega
     rw [hu,suc,hl]
   · have h1:=mono _ _ k
     rw [hl,←hu] at h1
     have h2:0≤highRt x g:=by rw [hu];exact Rat.mul_nonneg (nat_le (Nat.zero_le _)) hg0
     have h3:=sq_mono h2 h1
     exact absurd (Rat.le_trans a3 h3) (Rat.not_le.2 h)
 · rw [if_neg h]
   have he:lowRt x g*lowRt x g=x:=Rat.le_antisymm a1 (Rat.not_lt.1 h)
   rcases Nat.lt_or_ge r u with k | k
   · obtain rfl:u=r+1:=by omega
     have h1:highRt x g - g=lowRt x g:=by rw [hu,suc,hl];grind
     have h2:=high_down hg hx (by rw [h1];exact a5)
     rw [h1,he] at h2
     exact absurd h2 (Rat.lt_irrefl)
   · have h1:=mono _ _ k
     rw [hl,←hu] at h1
     rcases Nat.lt_or_ge u r with k2 | k2
     · have h4:=mono _ _ (show u+1≤r from k2)
       rw [suc,hl,←hu] at h4
       have h2:0≤highRt x g:=by rw [hu];exact Rat.mul_nonneg (nat_le (Nat.zero_le _)) hg0
       have h5:highRt x g<lowRt x g:=by grind
       have h6:highRt x g*highRt x g<lowRt x g*lowRt x g:=by
         have h7:=Rat.mul_le_mul_of_nonneg_left (Rat.le_of_lt h5) h2
         have h8:0<lowRt x g:=Std.lt_of_le_of_lt h2 h5
         have h9:=Rat.mul_lt_mul_of_pos_right h5 h8
         exact Std.lt_of_le_of_lt h7 h9
       rw [he] at h6
       exact absurd a3 (Rat.not_le.2 h6)
     · obtain rfl:u=r:=by omega
       rw [hu,hl]
end Go.Proofs.YtlcimajjnfbidaaGreatDoor
namespace Go.Proofs.YtlcimajjnfbidaaGreatDoor.Rf
open Lib (hid)
open Go.RowKit
open Rx
open Vx (siz siz_num siz_den)
open List renaming getElem?_toArray → lg, getElem?_cons_zero → lz, getElem?_cons_succ → ls, setIfInBounds_toArray → lt, set_cons_zero → ly, set_cons_succ → lu
theorem nat_rat {w:World} {vn vo:Value} {N:Nat} (hn:IsBig w vn N) (ho:IsBig w vo 1):IsRat w (.agg #[.bool false,vn,vo]) ((N:Nat):Rat) :=
 ⟨vn,vo,rfl,hn,ho⟩
theorem nat_siz (N:Nat):siz ((N:Nat):Rat)≤max (Vx.len N) 1:=siz_nat N
def RtAt (w:World) (cx cg:Array Value) (p g:Rat) (wr:World):Prop :=
  wr.heap[w.heap.size]?=some (.cells cx 39 (0,0))∧wr.heap[w.heap.size+1]?=some (.cells cg 39 (0,0))∧wr.heap[w.heap.size+2]?=some (.cells #[.bool false,.slice none 0 0,.slice none 0 0] 39 (0,0))∧IsRat wr (.agg cx) p∧IsRat wr (.agg cg) g∧Below w.heap.size w wr
theorem RtAt.keep {w:World} {cx cg:Array Value} {p g:Rat} {u v:World} (h:RtAt w cx cg p g u) (hb:Below u.heap.size u v):RtAt w cx cg p g v :=
 ⟨at_keep h.1 hb,at_keep h.2.1 hb,at_keep h.2.2.1 hb,h.2.2.2.1.keep hb,h.2.2.2.2.1.keep hb,chain h.2.2.2.2.2 hb⟩
end Go.Proofs.YtlcimajjnfbidaaGreatDoor.Rf
namespace Go.Proofs.YtlcimajjnfbidaaGreatDoor.Rf
open Lib (hid)
open Go.RowKit
open Rx
open Vx (siz siz_num siz_den)
open List renaming getElem?_toArray → lg, getElem?_cons_zero → lz, getElem?_cons_succ → ls, setIfInBounds_toArray → lt, set_cons_zero → ly, set_cons_succ → lu
theorem out_sizes {a g:Rat} (sa:siz a≤4100) (sg:siz g≤4100):siz (a / g)≤8200∧siz (flr (a / g))≤8200∧siz (-flr (-(a / g)))≤8200:=by
 have h1:=Vx.siz_div a g
 have h2:=siz_flr (a / g)
 have h3:=siz_ceil (a / g)
 omega
end Go.Proofs.YtlcimajjnfbidaaGreatDoor.Rf
namespace Go.Proofs.YtlcimajjnfbidaaGreatDoor.Rf
open Lib (hid)
open Go.RowKit
def late (P:Program) (ops:Array Oper) (Q:Exit→Act→World→Prop) (s:Nat) (e:Exit) (a:Act) (w:World):Prop :=
  match e with
  | .normal=>wpOp P ops Q s (Q .normal) a w
  | e=>Q e a w
theorem wp_late {P:Program} {ops:Array Oper} {Q:Exit→Act→World→Prop} {s:Nat} {o:Oper} {a:Act} {w:World} {K:Act→World→Prop}:o.wp P a w K (late P ops Q s)=o.wp P a w K Q:=by
 unfold Oper.wp Oper.upon
 split <;> rfl
theorem op_late {P:Program} {ops:Array Oper} {Q:Exit→Act→World→Prop} {s i:Nat} {o d:Oper} (ho:ops[s]?=some o) (hds:d.dst=o.dst) (hne:i≠s) {a:Act} {w:World} {K:Act→World→Prop} :
   wpOp P (ops.setIfInBounds s d) (late P ops Q s) i K a w=wpOp P ops Q i K a w:=by
 have hg:(ops.setIfInBounds s d)[i]?=ops[i]?:=Array.getElem?_setIfInBounds_ne (Ne.symm hne)
 have hy:yielded (ops.setIfInBounds s d) a.tmps=yielded ops a.tmps:=by
   funext j
   unfold yielded
   rcases Nat.decEq s j with h | h
   · rw [Array.getElem?_setIfInBounds_ne h]
   · subst h
     have hlt:s<ops.size:=(Array.getElem?_eq_some_iff.1 ho).1
     rw [Array.getElem?_setIfInBounds_self_of_lt hlt,ho]
     simp only [Option.bind_some,hds]
 unfold wpOp
 rw [hg,hy]
 cases ops[i]? with
 | none=>rfl
 | some x=>dsimp only;rw [wp_late];rfl
theorem ready_late {ops:Array Oper} {md:Region.Mode} {s:Nat} {o d:Oper} (ho:ops[s]?=some o) (hda:d.after=o.after) (listed:Array Bool):Region.ready md (ops.setIfInBounds s d) listed=Region.ready md ops listed:=by
 have hlt:s<ops.size:=(Array.getElem?_eq_some_iff.1 ho).1
 unfold Region.ready
 rw [Array.size_setIfInBounds]
 congr 1
 funext i
 rcases Nat.decEq s i with h | h
 · rw [Array.getElem?_setIfInBounds_ne h]
 · subst h
   rw [Array.getElem?_setIfInBounds_self_of_lt hlt,ho]
   simp only [Option.map_some,hda]
def lastB (md:Region.Mode) (ops:Array Oper) (s:Nat):Bool :=
  (List.range ops.size).all fun i=>match ops[i]? with
    | some x=>x.after.all (fun e => !Region.binds md e || decide (e.on<i)) && (decide (i=s) || (match ops[s]? with | some y=>y.after.any fun e=>Region.binds md e && decide (e.on=i) | none=>false))
    | none=>true
theorem some_ready {ops:Array Oper} {md:Region.Mode} {listed:Array Bool} (hl:listed.size=ops.size) (h:∀ i x,ops[i]?=some x→∀ e∈x.after,Region.binds md e=true→e.on<i) :
   ∀ n s,s≤n→s<ops.size→listed.getD s true=false→Region.ready md ops listed≠[]:=by
 intro n
 induction n with
 | zero =>
   intro s hs hlt hu
   obtain rfl:s=0:=by omega
   intro h0
   have:0∈Region.ready md ops listed:=mem_ready.2 ⟨hu,ops[0],by simp [hlt],fun e he hb=>absurd (h 0 _ (by simp [hlt]) e he hb) (by omega)⟩
   rw [h0] at this
   cases this
 | succ n ih =>
   intro s hs hlt hu
   rcases Decidable.em (∃ j,j<s∧listed.getD j true=false) with ⟨j,hj,hju⟩ | hall
   · exact ih j (by omega) (by omega) hju
   · intro h0
     have:s∈Region.ready md ops listed:=mem_ready.2 ⟨hu,ops[s],by simp [hlt],fun e he hb=>by
       have h1:=h s _ (by simp [hlt]) e he hb
       have h2:¬ listed.getD e.on true=false:=fun k=>hall ⟨_,h1,k⟩
       have h3:e.on<listed.size:=by omega
       simp only [Array.getD,h3,dif_pos] at h2 ⊢
       simpa using h2⟩
     rw [h0] at this
     cases this
theorem any_late {P:Program} {ops:Array Oper} {Q:Exit→Act→World→Prop} {md:Region.Mode} {s:Nat} {o d:Oper} {v:Value} (ho:ops[s]?=some o) (hds:d.dst=o.dst) (hd0:d.dst=none) (hda:d.after=o.after) (hdg:d.guard=none)
   (hrun:∀ (a:Act) (w:World),(execOp a.eval d).run P w=.ok (.value v) w) (hask:∀ a w,¬ d.asks P a w)
   (hlow:∀ i x,ops[i]?=some x→∀ e∈x.after,Region.binds md e=true→e.on<i) (hall:∀ j,j≠s→j<ops.size→∃ e∈o.after,Region.binds md e=true∧e.on=j) :
   ∀ (fuel:Nat) (listed:Array Bool) (a:Act) (w:World),listed.size=ops.size→listed.getD s true=false →
     wpAny P md (ops.setIfInBounds s d) (late P ops Q s) fuel listed a w→wpAny P md ops Q fuel listed a w:=by
 have hlt:s<ops.size:=(Array.getElem?_eq_some_iff.1 ho).1
 intro fuel
 induction fuel with
 | zero =>
   intro listed a w hsz hu h
   have:=h.1
   rw [ready_late ho hda] at this
   exact absurd this (some_ready hsz hlow s s (Nat.le_refl _) hlt hu)
 | succ fuel ih =>
   intro listed a w hsz hu h
   refine ⟨fun h0=>absurd h0 (some_ready hsz hlow s s (Nat.le_refl _) hlt hu),fun i hi=>?_⟩
   have h1:=h.2 i (by rw [ready_late ho hda];exact hi)
   rcases Nat.decEq i s with hne | rfl
   · rw [op_late ho hds hne] at h1
     refine wpOp_mono (fun a' w' k=>ih _ a' w' (by rw [Array.size_setIfInBounds];exact hsz) (by rw [getD_set_ne true hne];exact hu) k) h1
   · -- the last one: all others are listed
     obtain ⟨hun,o',ho',hw⟩:=mem_ready.1 hi
     obtain rfl:o'=o:=Option.some.inj (ho'.symm.trans ho)
     have hdone:Region.ready md ops (listed.setIfInBounds i true)=[]:=by
       rw [List.eq_nil_iff_forall_not_mem]
       intro j hj
       obtain ⟨hj0,x,hx,-⟩:=mem_ready.1 hj
       rcases Nat.decEq j i with hji | rfl
       · have hjlt:j<ops.size:=(Array.getElem?_eq_some_iff.1 hx).1
         obtain ⟨e,he,hb,rfl⟩:=hall j hji hjlt
         have h2:=hw e he hb
         rw [getD_set_ne true (Ne.symm hji)] at hj0
         have h3:e.on<listed.size:=by omega
         simp only [Array.getD,h3,dif_pos] at h2 hj0
         rw [h2] at hj0
         cases hj0
       · have h3:j<listed.size:=by omega
         simp [h3] at hj0
     -- what the dummy leaves
     have hK:wpOp P ops Q i (Q .normal) a w:=by
       unfold wpOp at h1
       rw [Array.getElem?_setIfInBounds_self_of_lt hlt] at h1
       dsimp only at h1
       rw [if_pos (by simp [Region.wanted,hdg])] at h1
       rcases h1 with h1 | ⟨h1,-⟩
       · unfold Oper.wp at h1
         rw [hrun,Oper.upon_value,hd0] at h1
         have h1':wpAny P md (ops.setIfInBounds i d) (late P ops Q i) fuel (listed.setIfInBounds i true) a w:=h1
         have hr:Region.ready md (ops.setIfInBounds i d) (listed.setIfInBounds i true)=[]:=by rw [ready_late ho hda];exact hdone
         cases fuel with
         | zero=>exact h1'.2
         | succ f=>exact h1'.1 hr
       · exact absurd h1 (hask a w)
     exact wpOp_mono (fun a' w' k=>wpAny_done hdone k fuel) hK
def idle (o:Oper):Oper:={ o with op:=.move (.const (.bool false)),dst:=none,guard:=none }
theorem idle_run {P:Program} (o:Oper) (a:Act) (w:World):(execOp a.eval (idle o)).run P w=.ok (.value (.bool false)) w:=by
 simp [idle,execOp,go_sem]
theorem idle_ask {P:Program} (o:Oper) (a:Act) (w:World):¬ (idle o).asks P a w:=by
 intro h
 have h1:=h.1
 simp [idle,execOp,go_sem] at h1
 have h2:noRoomEvent∈(#[]:Array Event):=h1
 simp at h2
theorem region_late {P:Program} {id s:Nat} {ops:Array Oper} {Q:Exit→Act→World→Prop} {o:Oper} {S:World→Prop} {a:Act} {w:World} (hm:P.follows .mixedOrders=true) (ho:ops[s]?=some o) (hd0:o.dst=none)
   (hl:lastB .any ops s=true)
   (h:wpAnyH P .any (ops.setIfInBounds s (idle o)) (late P ops Q s) S ops.size (Array.replicate ops.size false) a w.drew):(Code.region id ops true).wp P Q a w:=by
 have hlt:s<ops.size:=(Array.getElem?_eq_some_iff.1 ho).1
 have hl':=fun i (hi:i<ops.size)=>List.all_eq_true.1 hl i (List.mem_range.2 hi)
 refine wp_region_any hm (any_late (d:=idle o) ho hd0.symm rfl rfl rfl (fun a w=>idle_run o a w) (fun a w=>idle_ask o a w) ?_ ?_ _ _ _ _ (by simp) (by simp [hlt]) (wpAny_of_held _ _ _ _ h))
 · intro i x hx e he hb
   have h1:=hl' i (Array.getElem?_eq_some_iff.1 hx).1
   rw [hx] at h1
   simp only [Bool.and_eq_true] at h1
   have h2:=Array.all_eq_true_iff_forall_mem.1 h1.1 e he
   simpa [hb] using h2
 · intro j hj hjl
   have h1:=hl' j hjl
   rw [show ops[j]?=some ops[j] by simp [hjl],ho] at h1
   simp only [Bool.and_eq_true,Bool.or_eq_true,decide_eq_true_eq,hj,false_or] at h1
   obtain ⟨q,hq,h2⟩:=Array.any_eq_true.1 h1.2
   simp only [Bool.and_eq_true,decide_eq_true_eq] at h2
   exact ⟨_,Array.getElem_mem hq,h2.1,h2.2⟩
theorem late_do {P:Program} {ops:Array Oper} {Q:Exit→Act→World→Prop} {s:Nat} {o:Oper} {a:Act} {w:World} (ho:ops[s]?=some o) (hg:o.guard=none) (h:o.wp P a w (Q .normal) Q):late P ops Q s .normal a w:=by
 show wpOp P ops Q s (Q .normal) a w
 unfold wpOp
 rw [ho]
 dsimp only
 rw [if_pos (by simp [Region.wanted,hg])]
 exact .inl h
end Go.Proofs.YtlcimajjnfbidaaGreatDoor.Rf
namespace Go.Proofs.YtlcimajjnfbidaaGreatDoor.Rf
open Lib (hid)
open Go.RowKit
open Rx
open Vx (siz siz_num siz_den)
open List renaming getElem?_toArray → lg, getElem?_cons_zero → lz, getElem?_cons_succ → ls, setIfInBounds_toArray → lt, set_cons_zero → ly, set_cons_succ → lu
def RatsAt (w:World) (b o:Nat) (l:List Rat):Prop:=∀ (i:Nat) (q:Rat),l[i]?=some q→∃ s A1 n1 c1 A2 n2 c2,w.cell? ⟨b,o+i*3,none⟩=some (.bool s)∧w.cell? ⟨b,o+i*3+1,none⟩=some (.slice A1 n1 c1)∧w.cell? ⟨b,o+i*3+2,none⟩=some (.slice A2 n2 c2)∧IsRat w (.agg #[.bool s,.slice A1 n1 c1,.slice A2 n2 c2]) q
theorem RatsAt.keep {w w':World} {b o:Nat} {l:List Rat} (h:RatsAt w b o l) (hb:Below w.heap.size w w'):RatsAt w' b o l:=by
 intro i q hi
 obtain ⟨s,A1,n1,c1,A2,n2,c2,h0,h1,h2,h3⟩:=h i q hi
 have hl:=World.block_lt_of_cell? w _ h0
 exact ⟨s,A1,n1,c1,A2,n2,c2,(hb.cell (p:=⟨b,o+i*3,none⟩) hl).trans h0,(hb.cell (p:=⟨b,o+i*3+1,none⟩) hl).trans h1,(hb.cell (p:=⟨b,o+i*3+2,none⟩) hl).trans h2,h3.keep hb⟩
theorem RatsAt.stay {w w':World} {b o B:Nat} {l:List Rat} (h:RatsAt w b o l) (hne:b≠B) (hO:∀ (n:Nat) (x:Obj),n≠B→w.heap[n]?=some x→w'.heap[n]?=some x) (hL:Live w w'):RatsAt w' b o l:=by
 intro i q hi
 obtain ⟨s,A1,n1,c1,A2,n2,c2,h0,h1,h2,h3⟩:=h i q hi
 have hl:=World.block_lt_of_cell? w _ h0
 have he:w'.heap[b]?=w.heap[b]?:=by
   have:w.heap[b]?=some w.heap[b]:=by simp [hl]
   rw [hO b _ hne this,this]
 exact ⟨s,A1,n1,c1,A2,n2,c2,(World.cell?_of_block he).trans h0,(World.cell?_of_block he).trans h1,(World.cell?_of_block he).trans h2,hL.rat h3⟩
def EndsAt (w:World) (b o B:Nat) (x0:Rat) (l:List Rat) (k:Nat) (wr:World):Prop :=
  ∃ s1 A1 n1 c1 A2 n2 c2 s2 A3 n3 c3 A4 n4 c4,wr.heap[B]?=some (.cells #[.bool s1,.slice A1 n1 c1,.slice A2 n2 c2,.bool s2,.slice A3 n3 c3,.slice A4 n4 c4] 50 (0,0)) ∧
    IsRBox wr (.agg #[.bool s1,.slice A1 n1 c1,.slice A2 n2 c2,.bool s2,.slice A3 n3 c3,.slice A4 n4 c4]) (leastOf x0 (l.take k)) (greatestOf x0 (l.take k)) ∧
    RatsAt wr b o (x0::l)∧wr.heap[w.heap.size]?=some (.cells #[.bool false,.slice none 0 0,.slice none 0 0,.bool false,.slice none 0 0,.slice none 0 0] 50 (0,0))∧Below w.heap.size w wr
theorem least_min {x0 q:Rat} {l:List Rat} {k:Nat} (h:l[k]?=some q):∀ m,leastOf x0 (l.take k)=m→(if m≤q then m else q)=leastOf x0 (l.take (k+1)):=by
 intro m hm
 rw [leastOf_step h,hm]
 rcases Decidable.em (q<m) with k | k
 · rw [if_pos k,if_neg (Rat.not_le.2 k)]
 · rw [if_neg k,if_pos (Rat.not_lt.1 k)]
theorem great_max {x0 q:Rat} {l:List Rat} {k:Nat} (h:l[k]?=some q):∀ m,greatestOf x0 (l.take k)=m→(if q≤m then m else q)=greatestOf x0 (l.take (k+1)):=by
 intro m hm
 rw [greatestOf_step h,hm]
 rcases Decidable.em (m<q) with k | k
 · rw [if_pos k,if_neg (Rat.not_le.2 k)]
 · rw [if_neg k,if_pos (Rat.not_lt.1 k)]
theorem ends_small {x0:Rat} {l:List Rat} {N:Nat} (h:∀ y∈x0::l,siz y≤N):∀ k,siz (leastOf x0 (l.take k))≤N∧siz (greatestOf x0 (l.take k))≤N:=by
 intro k
 induction k with
 | zero=>exact ⟨h x0 (by simp),h x0 (by simp)⟩
 | succ k ih =>
   rcases hq:l[k]? with _ | q
   · have:l.take (k+1)=l.take k:=by rw [List.take_add_one,hq];simp
     rw [this];exact ih
   · rw [leastOf_step hq,greatestOf_step hq]
     have hm:=h q (List.mem_cons_of_mem _ (List.mem_of_getElem? hq))
     constructor <;> split <;> first | exact hm | exact ih.1 | exact ih.2
theorem endsR_any {w:World} {b o c:Nat} {x0 lo hi:Rat} {l:List Rat} (el:leastOf x0 l=lo) (eh:greatestOf x0 l=hi) (hl:RatsAt w b o (x0::l)) (hn:l.length≤1000) (hs:∀ y∈x0::l,siz y≤16777216) :
   Calls Tryz.prog 66 #[.slice (some ⟨b,o,none⟩) (l.length+1) c] w (RBoxRet w lo hi):=by
 have HS:=hid (ends_small hs)
 have HQ:=hid (fun q (hq:q∈x0::l)=>hs q hq)
 have e0l:leastOf x0 (l.take 0)=x0:=rfl
 have e0g:greatestOf x0 (l.take 0)=x0:=rfl
 replace e0l:=hid e0l
 replace e0g:=hid e0g
 clear hs
 replace el:=hid el
 replace eh:=hid eh
 replace hl:=hid hl
 obtain ⟨w1,hw1⟩:=eX ((w.alloc (.cells #[.bool false,.slice none 0 0,.slice none 0 0,.bool false,.slice none 0 0,.slice none 0 0] 50)))
 have b1:=alloc_below w (.cells #[.bool false,.slice none 0 0,.slice none 0 0,.bool false,.slice none 0 0,.slice none 0 0] 50)
 have g1:=heap_alloc_new w (.cells #[.bool false,.slice none 0 0,.slice none 0 0,.bool false,.slice none 0 0,.slice none 0 0] 50)
 rw [←hw1] at b1 g1
 replace g1:=hid g1
 replace b1:=hid b1
 go_enter Tryz.func66,Tryz.ntmps66
 go_upto_region 1 with fail
 rw [←hw1]
 clear hw1
 obtain ⟨s0,A1,n1,c1,A2,n2,c2,z0,z1,z2,hx0⟩:=(hl.out.keep b1.out) 0 x0 rfl
 rw [Nat.zero_mul,Nat.add_zero] at z0 z1 z2
 have hbl:b<w.heap.size:=by obtain ⟨_,_,_,_,_,_,_,y0,_⟩:=hl.out 0 x0 rfl;exact World.block_lt_of_cell? w _ y0
 have i1:decide (0<l.length+1)=true:=decide_eq_true (by omega)
 have i2:(0:Int)<((l.length+1:Nat):Int):=by omega
 have HX:=hid (pointR_any hx0)
 go_wp2_with fail
 refine (HX.out).mono ?_
 rintro e w2 ⟨v2,rfl,hv2,b2⟩
 obtain ⟨C1,j1,C2,j2,C3,j3,C4,j4,rfl,-,-,-,-⟩:=id hv2.opened
 replace hv2:=hid hv2
 replace b2:=hid b2
 clear HX
 clear z0 z1 z2 hx0 i1 i2
 go_upto_region 2 with fail
 obtain ⟨w3,hw3⟩:=eX (w2.alloc (.cells #[.bool (decide (x0.num<0)),.slice C1 (len x0.num.natAbs) j1,.slice C2 (len x0.den) j2,.bool (decide (x0.num<0)),.slice C3 (len x0.num.natAbs) j3,.slice C4 (len x0.den) j4] 50))
 have b3:=hid (newb1 hw3)
 have L3:=hid (newz1 hw3)
 rw [←hw3]
 clear hw3
 have y0_3:=hid (Below.step (Below.step b1.out b2.out) b3.out)
 have y1_3:=hid (Below.step b2.out b3.out)
 obtain ⟨B,hB⟩:=eY w2.heap.size
 have hGB:w.heap.size<B:=by rw [←hB];exact at_lt (at_keep g1.out b2.out)
 have HE:Hid (EndsAt w b o B x0 l 0 w3):=hid ⟨_,_,_,_,_,_,_,_,_,_,_,_,_,_,by rw [←hB];exact L3.out,by rw [e0l.out,e0g.out];exact (hv2.out.keep b3.out),hl.out.keep y0_3.out,at_keep g1.out y1_3.out,y0_3.out⟩
 rw [hB]
 clear hB L3 g1 hl
 go_wp2_with fail
 go_loopw [4] (fun iv wr=>∃ k:Nat,k≤l.length∧iv=.int .i64 ((k+1:Nat):Int)∧Hid (EndsAt w b o B x0 l k wr)) (fun iv _=>l.length+1 - (intOf iv).toNat)
 case atStart=>exact ⟨0,Nat.zero_le _,rfl,HE⟩
 case round =>
   obtain ⟨k,hk,rfl,hrel⟩:=hrel
   clear HE
   obtain ⟨s1,A1,n1,c1,A2,n2,c2,s2,A3,n3,c3,A4,n4,c4,g5,hv,hRs,gR,hbw⟩:=hrel.out
   clear hrel
   obtain ⟨m,hm⟩:=eY (leastOf x0 (l.take k))
   obtain ⟨M,hM⟩:=eY (greatestOf x0 (l.take k))
   obtain ⟨tm,tM⟩:=HS.out k
   rw [hm] at hv tm
   rw [hM] at hv tM
   rcases Nat.lt_or_ge k l.length with hkn | hkn
   · obtain ⟨q,hq⟩:∃ q,l[k]?=some q:=⟨l[k],by simp [hkn]⟩
     have tq:=HQ.out q (List.mem_cons_of_mem _ (List.mem_of_getElem? hq))
     have E1:=hid (least_min hq m hm)
     have E2:=hid (great_max hq M hM)
     obtain ⟨s5,A5,n5,c5,A6,n6,c6,y0,y1,y2,hxq⟩:=hRs (k+1) q (by simpa using hq)
     obtain ⟨z0,z1,z2,z3,z4,z5⟩:=cells6 g5
     obtain ⟨u,hu⟩:=eY (o+(k+1)*3)
     have hu':o+(k*3+3)=u:=by omega
     rw [hu] at y0 y1 y2
     have hlo:IsRat wr (.agg #[.bool s1,.slice A1 n1 c1,.slice A2 n2 c2]) m:=by
       obtain ⟨v1,v2,v3,v4,e,i1,i2,-,-⟩:=hv
       simp only [Value.agg.injEq,Array.mk.injEq,List.cons.injEq,Value.bool.injEq,and_true] at e
       obtain ⟨rfl,rfl,rfl,-,-,-⟩:=e
       exact ⟨_,_,rfl,i1,i2⟩
     have hhi:IsRat wr (.agg #[.bool s2,.slice A3 n3 c3,.slice A4 n4 c4]) M:=by
       obtain ⟨v1,v2,v3,v4,e,-,-,i1,i2⟩:=hv
       simp only [Value.agg.injEq,Array.mk.injEq,List.cons.injEq,Value.bool.injEq,and_true] at e
       obtain ⟨-,-,-,rfl,rfl,rfl⟩:=e
       exact ⟨_,_,rfl,i1,i2⟩
     have hBl:B<wr.heap.size:=at_lt g5
     have hbl2:b<wr.heap.size:=Nat.lt_of_lt_of_le hbl hbw.size
     have hin:decide (k+1<l.length+1)=true:=decide_eq_true (by omega)
     have hin2:k+1<l.length+1:=by omega
     have hin3:decide (k<l.length)=true:=decide_eq_true hkn
     have hin4:(0:Int)≤((k:Nat):Int)+1:=by omega
     obtain ⟨m2,em2⟩:=eY (leastOf x0 (l.take (k+1)))
     obtain ⟨M2,eM2⟩:=eY (greatestOf x0 (l.take (k+1)))
     rw [em2] at E1
     rw [eM2] at E2
     replace em2:=hid em2
     replace eM2:=hid eM2
     have hidx:((k+1:Nat):Int).toNat=k+1:=Int.toNat_natCast _
     clear hm hM hv
     replace hlo:=hid hlo
     replace hhi:=hid hhi
     replace hxq:=hid hxq
     replace g5:=hid g5
     replace hRs:=hid hRs
     replace gR:=hid gR
     replace hbw:=hid hbw
     replace hq:=hid hq
     replace tm:=hid tm
     replace tM:=hid tM
     replace tq:=hid tq
     go_upto_region 5 with fail
     go_wp2_with fail
     refine region_late (s:=15) (S:=(fun w'=>(w'.cell? ⟨B,0,none⟩=wr.cell? ⟨B,0,none⟩∧w'.cell? ⟨B,1,none⟩=wr.cell? ⟨B,1,none⟩∧w'.cell? ⟨B,2,none⟩=wr.cell? ⟨B,2,none⟩∧w'.cell? ⟨B,3,none⟩=wr.cell? ⟨B,3,none⟩∧w'.cell? ⟨B,4,none⟩=wr.cell? ⟨B,4,none⟩∧w'.cell? ⟨B,5,none⟩=wr.cell? ⟨B,5,none⟩∧w'.cell? ⟨b,u,none⟩=wr.cell? ⟨b,u,none⟩∧w'.cell? ⟨b,u+1,none⟩=wr.cell? ⟨b,u+1,none⟩∧w'.cell? ⟨b,u+2,none⟩=wr.cell? ⟨b,u+2,none⟩))) (by kernel_rfl) (by rfl) (by rfl) (by kernel_rfl) ?_
     simp only [idle,lt,ly,lu]
     have hHeld:(fun w'=>(w'.cell? ⟨B,0,none⟩=wr.cell? ⟨B,0,none⟩∧w'.cell? ⟨B,1,none⟩=wr.cell? ⟨B,1,none⟩∧w'.cell? ⟨B,2,none⟩=wr.cell? ⟨B,2,none⟩∧w'.cell? ⟨B,3,none⟩=wr.cell? ⟨B,3,none⟩∧w'.cell? ⟨B,4,none⟩=wr.cell? ⟨B,4,none⟩∧w'.cell? ⟨B,5,none⟩=wr.cell? ⟨B,5,none⟩∧w'.cell? ⟨b,u,none⟩=wr.cell? ⟨b,u,none⟩∧w'.cell? ⟨b,u+1,none⟩=wr.cell? ⟨b,u+1,none⟩∧w'.cell? ⟨b,u+2,none⟩=wr.cell? ⟨b,u+2,none⟩)) wr:=⟨rfl,rfl,rfl,rfl,rfl,rfl,rfl,rfl,rfl⟩
     obtain ⟨w91,hw91⟩:=eX wr.drew
     have b91:Hid (Below wr.heap.size wr w91):=hid (by rw [hw91];exact ⟨rfl,rfl,rfl,Nat.le_refl _,fun _ _=>rfl⟩)
     replace hHeld:(fun w'=>(w'.cell? ⟨B,0,none⟩=wr.cell? ⟨B,0,none⟩∧w'.cell? ⟨B,1,none⟩=wr.cell? ⟨B,1,none⟩∧w'.cell? ⟨B,2,none⟩=wr.cell? ⟨B,2,none⟩∧w'.cell? ⟨B,3,none⟩=wr.cell? ⟨B,3,none⟩∧w'.cell? ⟨B,4,none⟩=wr.cell? ⟨B,4,none⟩∧w'.cell? ⟨B,5,none⟩=wr.cell? ⟨B,5,none⟩∧w'.cell? ⟨b,u,none⟩=wr.cell? ⟨b,u,none⟩∧w'.cell? ⟨b,u+1,none⟩=wr.cell? ⟨b,u+1,none⟩∧w'.cell? ⟨b,u+2,none⟩=wr.cell? ⟨b,u+2,none⟩)) w91:=by rw [hw91];exact hHeld
     rw [←hw91]
     clear hw91
     refine tk (i:=0) (h:=?_)
     try simp only [Act.put,lt,ly,lu]
     refine tk (i:=1) (h:=?_)
     try simp only [Act.put,lt,ly,lu]
     refine tk (i:=2) (h:=?_)
     try simp only [Act.put,lt,ly,lu]
     refine tk (i:=3) (h:=?_)
     try simp only [Act.put,lt,ly,lu]
     refine tk (i:=4) (h:=?_)
     try simp only [Act.put,lt,ly,lu]
     refine tk (i:=5) (h:=?_)
     try simp only [Act.put,lt,ly,lu]
     refine tk (i:=7) (h:=?_)
     try simp only [Act.put,lt,ly,lu]
     refine tk (i:=8) (h:=?_)
     try simp only [Act.put,lt,ly,lu]
     refine tk (i:=9) (h:=?_)
     try simp only [Act.put,lt,ly,lu]
     refine tk (i:=10) (h:=?_)
     try simp only [Act.put,lt,ly,lu]
     refine tk (i:=11) (h:=?_)
     try simp only [Act.put,lt,ly,lu]
     refine tk (i:=12) (h:=?_)
     try simp only [Act.put,lt,ly,lu]
     refine wpAnyH_ready (rs:=[6]) (by kernel_rfl) (by simp) (AllReadyH.cons (o:=?oq13) ?eq13 ?kq13 AllReadyH.nil)
     case eq13=>simp only [lg,lz,ls];rfl
     intro K hK;go_simp;go_at_call 72
     refine (minR_any E1.out (hlo.out.keep b91.out) (hxq.out.keep b91.out) tm.out tq.out).mono ?_
     rintro e w92 ⟨v92,rfl,hv92,b92⟩
     obtain ⟨C31,j31,C32,j32,rfl,-,-⟩:=id hv92.opened
     replace hv92:=hid hv92
     replace b92:=hid b92
     have y90_92:=hid (Below.step b91.out b92.out)
     have hS:=y90_92.out
     clear hHeld
     refine hK.out _ _ ?_ (fun hHeld=>?_)
     · (try dsimp only)
       exact ⟨hS.cell (p:=⟨B,0,none⟩) hBl,hS.cell (p:=⟨B,1,none⟩) hBl,hS.cell (p:=⟨B,2,none⟩) hBl,hS.cell (p:=⟨B,3,none⟩) hBl,hS.cell (p:=⟨B,4,none⟩) hBl,hS.cell (p:=⟨B,5,none⟩) hBl,hS.cell (p:=⟨b,u,none⟩) hbl2,hS.cell (p:=⟨b,u+1,none⟩) hbl2,hS.cell (p:=⟨b,u+2,none⟩) hbl2⟩
     clear hK K hS;try simp only [Act.put,lt,ly,lu]
     refine wpAnyH_ready (rs:=[13]) (by kernel_rfl) (by simp) (AllReadyH.cons (o:=?oq14) ?eq14 ?kq14 AllReadyH.nil)
     case eq14=>simp only [lg,lz,ls];rfl
     intro K hK;go_simp;go_at_call 73
     refine (maxR_any E2.out (hhi.out.keep y90_92.out) (hxq.out.keep y90_92.out) tM.out tq.out).mono ?_
     rintro e w93 ⟨v93,rfl,hv93,b93⟩
     obtain ⟨C33,j33,C34,j34,rfl,-,-⟩:=id hv93.opened
     replace hv93:=hid hv93
     replace b93:=hid b93
     have y90_93:=hid (Below.step y90_92.out b93.out)
     have hS:=y90_93.out
     clear hHeld
     refine hK.out _ _ ?_ (fun hHeld=>?_)
     · (try dsimp only)
       exact ⟨hS.cell (p:=⟨B,0,none⟩) hBl,hS.cell (p:=⟨B,1,none⟩) hBl,hS.cell (p:=⟨B,2,none⟩) hBl,hS.cell (p:=⟨B,3,none⟩) hBl,hS.cell (p:=⟨B,4,none⟩) hBl,hS.cell (p:=⟨B,5,none⟩) hBl,hS.cell (p:=⟨b,u,none⟩) hbl2,hS.cell (p:=⟨b,u+1,none⟩) hbl2,hS.cell (p:=⟨b,u+2,none⟩) hbl2⟩
     clear hK K hS;try simp only [Act.put,lt,ly,lu]
     refine tk (i:=14) (h:=?_)
     try simp only [Act.put,lt,ly,lu]
     refine tk (i:=15) (h:=?_)
     try simp only [Act.put,lt,ly,lu]
     refine wpAnyH_done (by kernel_rfl) ?_ _
     clear hHeld y0 y1 y2 z0 z1 z2 z3 z4 z5 hu hu' hin hin2 hin3 hin4 hidx
     have DB:=at_keep g5.out y90_93.out
     have q0:=cell_of_row _ _ 0 _ _ _ DB
     have F0:=frozen_of_row w93 B 0 _ _ DB
     have q1:=cell_of_row _ _ 1 _ _ _ DB
     have F1:=frozen_of_row w93 B 1 _ _ DB
     have q2:=cell_of_row _ _ 2 _ _ _ DB
     have F2:=frozen_of_row w93 B 2 _ _ DB
     have q3:=cell_of_row _ _ 3 _ _ _ DB
     have F3:=frozen_of_row w93 B 3 _ _ DB
     have q4:=cell_of_row _ _ 4 _ _ _ DB
     have F4:=frozen_of_row w93 B 4 _ _ DB
     have q5:=cell_of_row _ _ 5 _ _ _ DB
     have F5:=frozen_of_row w93 B 5 _ _ DB
     simp only [lg,lz,ls] at q0 q1 q2 q3 q4 q5
     obtain ⟨ue,hw⟩:=eX (((((((w93.setCell ⟨B,0,none⟩ (.bool (decide (m2.num<0)))).setCell ⟨B,1,none⟩ (.slice C31 (len m2.num.natAbs) j31)).setCell ⟨B,2,none⟩ (.slice C32 (len m2.den) j32)).setCell ⟨B,3,none⟩ (.bool (decide (M2.num<0)))).setCell ⟨B,4,none⟩ (.slice C33 (len M2.num.natAbs) j33)).setCell ⟨B,5,none⟩ (.slice C34 (len M2.den) j34)))
     obtain ⟨E,OT,LV,BL⟩:=stored6 DB hw
     have FIN:Hid (EndsAt w b o B x0 l (k+1) ue):=hid ⟨_,_,_,_,_,_,_,_,_,_,_,_,_,_,E,by rw [em2.out,eM2.out];exact LV.rbox (IsRat.pair (hv92.out.keep b93.out) hv93.out),(hRs.out.keep y90_93.out).stay (by omega) OT LV,OT _ _ (by omega) (at_keep gR.out y90_93.out),BL _ _ (by omega) (chain hbw.out y90_93.out)⟩
     refine late_do (by rfl) (by rfl) ?_
     clear DB E OT LV BL
     go_simp
     rw [←hw]
     clear hw q0 q1 q2 q3 q4 q5 F0 F1 F2 F3 F4 F5
     go_wp2_with fail
     go_roundw
     case rel=>exact ⟨k+1,hkn,by go_num,FIN⟩
     case measure=>simp [intOf];omega
   · obtain rfl:k=l.length:=Nat.le_antisymm hk hkn
     rw [List.take_length] at hm hM
     have hm2:=hm.symm.trans el.out
     have hM2:=hM.symm.trans eh.out
     subst hm2 hM2
     obtain ⟨z0,z1,z2,z3,z4,z5⟩:=cells6 g5
     have q0:=cell_of_row _ _ 0 _ _ _ gR
     have q1:=cell_of_row _ _ 1 _ _ _ gR
     have q2:=cell_of_row _ _ 2 _ _ _ gR
     have q3:=cell_of_row _ _ 3 _ _ _ gR
     have q4:=cell_of_row _ _ 4 _ _ _ gR
     have q5:=cell_of_row _ _ 5 _ _ _ gR
     have F0:=frozen_of_row wr w.heap.size 0 _ _ gR
     have F1:=frozen_of_row wr w.heap.size 1 _ _ gR
     have F2:=frozen_of_row wr w.heap.size 2 _ _ gR
     have F3:=frozen_of_row wr w.heap.size 3 _ _ gR
     have F4:=frozen_of_row wr w.heap.size 4 _ _ gR
     have F5:=frozen_of_row wr w.heap.size 5 _ _ gR
     simp only [lg,lz,ls] at q0 q1 q2 q3 q4 q5
     obtain ⟨ue,hw⟩:=eX (((((((wr.setCell ⟨w.heap.size,0,none⟩ (.bool s1)).setCell ⟨w.heap.size,1,none⟩ (.slice A1 n1 c1)).setCell ⟨w.heap.size,2,none⟩ (.slice A2 n2 c2)).setCell ⟨w.heap.size,3,none⟩ (.bool s2)).setCell ⟨w.heap.size,4,none⟩ (.slice A3 n3 c3)).setCell ⟨w.heap.size,5,none⟩ (.slice A4 n4 c4)))
     obtain ⟨E,-,LV,BL⟩:=stored6 gR hw
     have FE:=hid (LV.rbox hv)
     have FB:=hid (BL _ _ (Nat.le_refl _) hbw)
     replace E:=hid E
     replace hw:=hid hw
     clear hm hM el eh HS HQ hv hRs gR hbw g5 BL LV tm tM
     go_wp2_with fail
     rw [←hw.out]
     obtain ⟨r0,r1,r2,r3,r4,r5⟩:=cells6 E.out
     refine bodyPost_ret (v:=.agg #[.bool s1,.slice A1 n1 c1,.slice A2 n2 c2,.bool s2,.slice A3 n3 c3,.slice A4 n4 c4]) ?_ rfl ⟨_,rfl,FE.out,FB.out⟩
     simp [results,Tryz.results66,go_sem,r0,r1,r2,r3,r4,r5]
end Go.Proofs.YtlcimajjnfbidaaGreatDoor.Rf
