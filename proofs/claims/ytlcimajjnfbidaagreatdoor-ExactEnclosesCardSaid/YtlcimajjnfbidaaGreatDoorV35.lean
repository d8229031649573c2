/-
  Contracts of the functions that the law calls, for every input (Ua Ub Wa).
-/
import Derived.Test.YtlcimajjnfbidaaGreatDoorV00
import Derived.Test.YtlcimajjnfbidaaGreatDoorV30
import Derived.Deep.AppendLies
import Derived.OwnWalk
import Derived.Test.YtlcimajjnfbidaaGreatDoorV33
import Derived.Test.YtlcimajjnfbidaaGreatDoorV34
set_option linter.all false
set_option maxRecDepth 100000
set_option maxHeartbeats 40000000
namespace Go.Proofs.YtlcimajjnfbidaaGreatDoor.Rf
open Lib (hid)
open Go.RowKit
open Rx
open Vx (siz siz_num siz_den)
def NI (u:Value):Prop:=∀ (k:IntKind) (n:Int),u≠.int k n
def NoInt (w:World) (v:Value):Prop:=∀ g,v.ownBlock=some g→∀ (o:Nat) (u:Value),w.cell? ⟨g,o,none⟩=some u→NI u
theorem noint_cells {w:World} {g:Nat} {cs:Array Value} {T:TypeId} {fr:Nat × Nat} (hb:w.heap[g]?=some (.cells cs T fr)) (h:∀ u∈cs.toList,NI u):∀ (o:Nat) (u:Value),w.cell? ⟨g,o,none⟩=some u→NI u:=by
 intro o u hu
 rw [cell_of_row _ _ _ _ _ _ hb] at hu
 exact h u (List.mem_of_getElem? (by rw [Array.getElem?_toList];exact hu))
theorem ni_zero {z:Array Value} {n:Nat} (h0:0<z.size) (h:∀ u∈z.toList,NI u):∀ u∈(Builtin.zeroCells z n).toList,NI u:=by
 intro u hu
 simp only [Builtin.zeroCells,Array.toList_map,List.mem_map] at hu
 obtain ⟨i,-,rfl⟩:=hu
 have hlt:i%z.size<z.size:=Nat.mod_lt _ h0
 rw [getElem!_pos z _ hlt]
 exact h _ (Array.getElem_mem_toList hlt)
theorem ni_app {a b:List Value} (ha:∀ u∈a,NI u) (hb:∀ u∈b,NI u):∀ u∈a++b,NI u:=by
 intro u hu
 rcases List.mem_append.1 hu with h | h
 · exact ha u h
 · exact hb u h
theorem run_append_ni {P:Program} {w:World} {t ty e:TypeId} {base size bytes:Nat} {i:TypeInfo} {z v:Value} (ht:P.underlying t=some (.slice e)) (hi:P.info? e=some i) (hz:i.zero=some z)
   (hsize:i.size=size) (hby:i.bytes=bytes) (hzs:z.cells.size=size) (hsz:0<size) {n:Nat} {xs:List Value} (hown:w.ownsRow base e size v n xs)
   {ad:Addr} {m c:Nat} {news:List Value} (hl:news.length=m*size) (hnews:∀ j u,news[j]?=some u→w.cell? (ad.add j)=some u) (h1:∀ u∈news,u.oneCell'=true)
   (hm:0<m) (h63:n+m≤maxLen) (hbytes:(n+m)*bytes≤140737488355328) (hbase:base≤w.heap.size) (hni:NoInt w v) (hnn:∀ u∈news,NI u) (hzn:∀ u∈z.cells.toList,NI u) :
   ∃ g cap w',(Builtin.append_ #[t,t] ty #[v,.slice (some ad) m c]).run P w=.ok (.slice (some ⟨g,0,none⟩) (n+m) cap) w' ∧
     w'.ownsRow base e size (.slice (some ⟨g,0,none⟩) (n+m) cap) (n+m) (xs++news)∧w.grownBy w' v.ownBlock∧(v.ownBlock=some g∨g=w.heap.size)∧g<w'.heap.size∧NoInt w' (.slice (some ⟨g,0,none⟩) (n+m) cap):=by
 obtain ⟨g,cap,w',hr,h2,h3,h4,h5⟩:=run_append_lies (P:=P) w t ty base e i z size bytes ht hi hz hsize hby hzs hsz v n xs hown ad m c news hl hnews h1 hm h63 hbytes hbase w.heap.size rfl
 refine ⟨g,cap,w',hr,h2,h3,h4,h5,?_⟩
 subst hsize
 subst hby
 have big:n+m≤9223372036854775807:=by simp only [maxLen] at h63;omega
 have hz0:0<z.cells.size:=by omega
 have hxs:∀ u∈xs,NI u:=by
   intro u hu
   obtain ⟨j,hj⟩:=List.mem_iff_getElem?.1 hu
   rcases hown.2 with ⟨-,h0⟩ | ⟨g0,cap0,cur,hv,-,hg,-,-,-,htk⟩
   · have:=hown.1
     rw [h0,Nat.zero_mul] at this
     rw [List.eq_nil_of_length_eq_zero this] at hu
     cases hu
   · refine hni g0 (by rw [hv];rfl) j u ?_
     rw [cell_of_row _ _ _ _ _ _ hg,←Array.getElem?_toList]
     rw [←htk] at hj
     rw [List.getElem?_take] at hj
     split at hj
     · exact hj
     · cases hj
 have key:∀ (old:Nat) (cs:List Value),(∀ u∈cs,NI u)→∀ u':World,u'.heap[g]?=some (.cells (cs.toArray++Builtin.zeroCells z.cells old) e (0,0))→NoInt u' (.slice (some ⟨g,0,none⟩) (n+m) cap):=by
   intro old cs hcs u' hb g' hg'
   have:g=g':=Option.some.inj hg'
   subst this
   refine noint_cells hb ?_
   rw [Array.toList_append]
   exact ni_app hcs (ni_zero hz0 hzn)
 rcases hown.2 with ⟨rfl,rfl⟩ | ⟨g0,cap0,cur,rfl,hbg,hg,hnc,hcm,hcs,htk⟩
 · have hr2:=run_append_nil (P:=P) w t ty e i z ht hi hz ad m c news hl hnews (by omega) (by omega) (by have hb:=hbytes;simp only [Nat.zero_add] at hb;omega)
   rw [hr2] at hr
   injection hr with e1 e2
   injection e1 with e3 e4 e5
   injection e3 with e6
   injection e6 with e7
   refine key (grownCap w m 0 e - m) news hnn w' ?_
   rw [←e2,←e7]
   exact heap_alloc_new w.drew _
 · by_cases hroom:n+m≤cap0
   · have hfit:n*i.size+news.length≤cur.size:=by rw [hl,hcs,←Nat.add_mul];exact Nat.mul_le_mul_right _ hroom
     have hr2:=run_append_room (P:=P) w t ty e i ht hi g0 n cap0 cur hg ad m c news hl hnews h1 hroom hfit
     rw [hr2] at hr
     injection hr with e1 e2
     injection e1 with e3 e4 e5
     injection e3 with e6
     injection e6 with e7
     subst e7
     intro g' hg'
     have:g0=g':=Option.some.inj hg'
     subst this
     rw [←e2]
     refine noint_cells (setRow_heap w g0 cur _ e _ hg) ?_
     have hcur:∀ u∈cur.toList,NI u:=by
       intro u hu
       obtain ⟨j,hj⟩:=List.mem_iff_getElem?.1 hu
       exact hni g0 rfl j u (by rw [cell_of_row _ _ _ _ _ _ hg,←Array.getElem?_toList];exact hj)
     exact ni_app (ni_app (fun u hu=>hcur u (List.mem_of_mem_take hu)) hnn) (fun u hu=>hcur u (List.mem_of_mem_drop hu))
   · have holds:∀ j u,xs[j]?=some u→w.cell? ((⟨g0,0,none⟩:Addr).add j)=some u:=hown.cells (g:=g0) rfl
     have hr2:=run_append_grow (P:=P) w t ty e i z ht hi hz ⟨g0,0,none⟩ n cap0 xs hown.1 holds ad m c news hl hnews (by omega) (by omega) (growslice_fits (by omega) hbytes)
     rw [hr2] at hr
     injection hr with e1 e2
     injection e1 with e3 e4 e5
     injection e3 with e6
     injection e6 with e7
     refine key (grownCap w (n+m) cap0 e - (n+m)) (xs++news) (ni_app hxs hnn) w' ?_
     rw [←e2,←e7,←List.append_toArray]
     exact heap_alloc_new w.drew _
theorem wp_append_ni {P:Program} {o:Oper} {a:Act} {w:World} {K:Act→World→Prop} {Q:Exit→Act→World→Prop} {s x:Operand} {t:TypeId}
   (ho:o.op=.call { callee:=.builtin .append,args:=#[s,x],argTypes:=#[t,t] }) {base size bytes:Nat} {e:TypeId} {i:TypeInfo} {z:Value} (ht:P.underlying t=some (.slice e)) (hi:P.info? e=some i) (hz:i.zero=some z)
   (hsize:i.size=size) (hby:i.bytes=bytes) (hzs:z.cells.size=size) (hsz:0<size) {v:Value} {n:Nat} {xs:List Value} (hs:a.eval s=v) (hown:w.ownsRow base e size v n xs)
   {ad:Addr} {m c:Nat} {news:List Value} (hx:a.eval x=.slice (some ad) m c) (hl:news.length=m*size) (hnews:∀ j u,news[j]?=some u→w.cell? (ad.add j)=some u) (h1:∀ u∈news,u.oneCell'=true)
   (hm:0<m) (h63:n+m≤maxLen) (hbytes:(n+m)*bytes≤140737488355328) (hbase:base≤w.heap.size) (hni:NoInt w v) (hnn:∀ u∈news,NI u) (hzn:∀ u∈z.cells.toList,NI u)
   (h:∀ g cap w',w'.ownsRow base e size (.slice (some ⟨g,0,none⟩) (n+m) cap) (n+m) (xs++news)→w.grownBy w' v.ownBlock→(v.ownBlock=some g∨g=w.heap.size)→g<w'.heap.size→NoInt w' (.slice (some ⟨g,0,none⟩) (n+m) cap) →
     K (a.put o.dst (.slice (some ⟨g,0,none⟩) (n+m) cap)) w'):o.wp P a w K Q:=by
 obtain ⟨g,cap,w',hr,h2,h3,h4,h5,h6⟩:=run_append_ni (P:=P) (ty:=o.type) ht hi hz hsize hby hzs hsz hown hl hnews h1 hm h63 hbytes hbase hni hnn hzn (c:=c)
 unfold Oper.wp execOp
 simp only [ho,resolve,invoke,builtin,Sem.run_bind,Sem.run_pure,Result.andThen_ok,List.map_toArray,List.map_cons,List.map_nil,hs,hx,hr]
 exact h g cap w' h2 h3 h4 h5 h6
theorem live_grown {w w':World} {v:Value} (hni:NoInt w v) (hg:w.grownBy w' v.ownBlock):Live w w':=by
 have hb:∀ (g o:Nat) (n:Int) (k:IntKind),w.cell? ⟨g,o,none⟩=some (.int k n)→some g≠v.ownBlock:=fun g o n k hc he=>hni g he.symm o _ hc k n rfl
 have hN:∀ x z,Nt w x z→Nt w' x z:=by
   rintro x z ⟨A,c,h1,h2,h3,h4,h5⟩
   refine ⟨A,c,h1,h2,h3,h4,fun hx=>?_⟩
   obtain ⟨b,o,h6,h7,h8⟩:=h5 hx
   have hne:some b≠v.ownBlock:=hb b (o+0) _ _ (h8 0 (Vx.len_pos.2 hx))
   exact ⟨b,o,h6,Nat.lt_of_lt_of_le h7 hg.size,fun j hj=>(hg.cell_far ⟨b,o+j,none⟩ h7 hne).trans (h8 j hj)⟩
 have hB:∀ x z,IsBig w x z→IsBig w' x z:=by
   rintro x z ⟨A,c,h1,h2,h3,h4,h5⟩
   refine ⟨A,c,h1,h2,h3,h4,fun hx=>?_⟩
   obtain ⟨b,o,h6,h7,h8⟩:=h5 hx
   have hne:some b≠v.ownBlock:=hb b (o+0) _ _ (h8 0 hx)
   exact ⟨b,o,h6,Nat.lt_of_lt_of_le h7 hg.size,fun j hj=>(hg.cell_far ⟨b,o+j,none⟩ h7 hne).trans (h8 j hj)⟩
 exact ⟨fun x z h=>hN x z h,fun x z h=>hB x z h⟩
def Els (I:Value→Rat→Prop):List Value→List Rat→Prop
  | [],[]=>True
  | a::b::c::xs,q::l=>I (.agg #[a,b,c]) q∧Els I xs l
  | _,_=>False
theorem Els.mono {I J:Value→Rat→Prop} (hI:∀ v q,I v q→J v q):∀ {l:List Rat} {xs:List Value},Els I xs l→Els J xs l
 | [],[],_=>trivial
 | _::_,_::_::_::_,h=>⟨hI _ _ h.1,h.2.mono hI⟩
 | _::_,[],h=>h.elim
 | _::_,[_],h=>h.elim
 | _::_,[_,_],h=>h.elim
 | [],[_],h=>h.elim
 | [],[_,_],h=>h.elim
 | [],_::_::_::_,h=>h.elim
theorem Els.snoc {I:Value→Rat→Prop} {a b c:Value} {q:Rat} (hq:I (.agg #[a,b,c]) q):∀ {l:List Rat} {xs:List Value},Els I xs l→Els I (xs++[a,b,c]) (l++[q])
 | [],[],_=>⟨hq,trivial⟩
 | _::_,_::_::_::_,h=>⟨h.1,h.2.snoc hq⟩
 | _::_,[],h=>h.elim
 | _::_,[_],h=>h.elim
 | _::_,[_,_],h=>h.elim
 | [],[_],h=>h.elim
 | [],[_,_],h=>h.elim
 | [],_::_::_::_,h=>h.elim
theorem Els.length {I:Value→Rat→Prop}:∀ {l:List Rat} {xs:List Value},Els I xs l→xs.length=l.length*3
 | [],[],_=>rfl
 | _::_,_::_::_::_,h=>by have:=h.2.length;simp only [List.length_cons];omega
 | _::_,[],h=>h.elim
 | _::_,[_],h=>h.elim
 | _::_,[_,_],h=>h.elim
 | [],[_],h=>h.elim
 | [],[_,_],h=>h.elim
 | [],_::_::_::_,h=>h.elim
theorem Els.get {I:Value→Rat→Prop}:∀ {l:List Rat} {xs:List Value} {i:Nat} {q:Rat},Els I xs l→l[i]?=some q→∃ a b c,xs[i*3]?=some a∧xs[i*3+1]?=some b∧xs[i*3+2]?=some c∧I (.agg #[a,b,c]) q
 | _::_,a::b::c::_,0,_,h,e=>by
   obtain rfl:=Option.some.inj e
   exact ⟨a,b,c,rfl,rfl,rfl,h.1⟩
 | _::_,a::b::c::_,i+1,_,h,e=>by
   obtain ⟨x,y,z,h1,h2,h3,h4⟩:=Els.get (i:=i) h.2 e
   have e3:(i+1)*3=i*3+3:=by omega
   have e4:(i+1)*3+1=i*3+1+3:=by omega
   have e5:(i+1)*3+2=i*3+2+3:=by omega
   exact ⟨x,y,z,by rw [e3];exact h1,by rw [e4];exact h2,by rw [e5];exact h3,h4⟩
 | _::_,[],_,_,h,_=>h.elim
 | _::_,[_],_,_,h,_=>h.elim
 | _::_,[_,_],_,_,h,_=>h.elim
 | [],_,_,_,_,e=>by simp at e
def Grow (I:World→Value→Rat→Prop) (T:TypeId) (B:Nat) (w:World) (v:Value) (l:List Rat):Prop :=
  ∃ g cap xs,v=.slice (some ⟨g,0,none⟩) l.length cap∧w.ownsRow B T 3 v l.length xs∧NoInt w v∧Els (I w) xs l
theorem ownsRow_block {w w':World} {B:Nat} {T:TypeId} {v:Value} {n:Nat} {xs:List Value} (h:w.ownsRow B T 3 v n xs) (hb:∀ g,v.ownBlock=some g→g<w.heap.size→w'.heap[g]?=w.heap[g]?):w'.ownsRow B T 3 v n xs:=by
 refine ⟨h.1,?_⟩
 rcases h.2 with h0 | ⟨g,cap,cur,hv,h1,h2,h3⟩
 · exact Or.inl h0
 · exact Or.inr ⟨g,cap,cur,hv,h1,(hb g (by rw [hv];rfl) (Array.getElem?_eq_some_iff.1 h2).1).trans h2,h3⟩
theorem noInt_block {w w':World} {v:Value} (h:NoInt w v) (hl:∀ g,v.ownBlock=some g→g<w.heap.size) (hb:∀ g,v.ownBlock=some g→g<w.heap.size→w'.heap[g]?=w.heap[g]?):NoInt w' v:=by
 intro g hg o u hu
 rw [World.cell?_of_block (a:=⟨g,o,none⟩) (hb g hg (hl g hg))] at hu
 exact h g hg o u hu
theorem Grow.block {I:World→Value→Rat→Prop} {T:TypeId} {B:Nat} {w w':World} {v:Value} {l:List Rat} (h:Grow I T B w v l) (hb:∀ g,v.ownBlock=some g→g<w.heap.size→w'.heap[g]?=w.heap[g]?) (hI:∀ v q,I w v q→I w' v q):Grow I T B w' v l:=by
 obtain ⟨g,cap,xs,hv,h1,h2,h3⟩:=h
 exact ⟨g,cap,xs,hv,ownsRow_block h1 hb,noInt_block h2 (fun k hk=>(h1.lt k hk).2) hb,h3.mono hI⟩
theorem Grow.keep {I:World→Value→Rat→Prop} {T:TypeId} {B:Nat} {w w':World} {v:Value} {l:List Rat} (h:Grow I T B w v l) (hb:Below w.heap.size w w') (hI:∀ v q,I w v q→I w' v q):Grow I T B w' v l:=h.block (fun g _ hlt=>hb.block g hlt) hI
theorem Grow.push {I:World→Value→Rat→Prop} {T:TypeId} {B:Nat} {w w':World} {l:List Rat} {g cap:Nat} {xs:List Value} {a b c:Value} {q:Rat} (hx:Els (I w) xs l) (hI:∀ v q,I w v q→I w' v q) (hq:I w' (.agg #[a,b,c]) q)
   (hown:w'.ownsRow B T 3 (.slice (some ⟨g,0,none⟩) (l.length+1) cap) (l.length+1) (xs++[a,b,c])) (hni:NoInt w' (.slice (some ⟨g,0,none⟩) (l.length+1) cap)):Grow I T B w' (.slice (some ⟨g,0,none⟩) (l.length+1) cap) (l++[q]):=by
 have e:(l++[q]).length=l.length+1:=by simp
 exact ⟨g,cap,xs++[a,b,c],by rw [e],by rw [e];exact hown,hni,(hx.mono hI).snoc hq⟩
def NumsAt (w:World) (b o:Nat) (l:List Rat):Prop:=∀ (i:Nat) (q:Rat),l[i]?=some q→∃ s A1 n1 c1 A2 n2 c2,w.cell? ⟨b,o+i*3,none⟩=some (.bool s)∧w.cell? ⟨b,o+i*3+1,none⟩=some (.slice A1 n1 c1)∧w.cell? ⟨b,o+i*3+2,none⟩=some (.slice A2 n2 c2)∧IsNum w (.agg #[.bool s,.slice A1 n1 c1,.slice A2 n2 c2]) q
def RatsIn (w:World) (b o:Nat) (l:List Rat):Prop:=∀ (i:Nat) (q:Rat),l[i]?=some q→∃ s A1 n1 c1 A2 n2 c2,w.cell? ⟨b,o+i*3,none⟩=some (.bool s)∧w.cell? ⟨b,o+i*3+1,none⟩=some (.slice A1 n1 c1)∧w.cell? ⟨b,o+i*3+2,none⟩=some (.slice A2 n2 c2)∧IsRat w (.agg #[.bool s,.slice A1 n1 c1,.slice A2 n2 c2]) q
theorem NumsAt.keep {w w':World} {b o:Nat} {l:List Rat} (h:NumsAt w b o l) (hb:Below w.heap.size w w'):NumsAt w' b o l:=by
 intro i q hi
 obtain ⟨s,A1,n1,c1,A2,n2,c2,h0,h1,h2,h3⟩:=h i q hi
 have hl:=World.block_lt_of_cell? w _ h0
 exact ⟨s,A1,n1,c1,A2,n2,c2,(hb.cell (p:=⟨b,o+i*3,none⟩) hl).trans h0,(hb.cell (p:=⟨b,o+i*3+1,none⟩) hl).trans h1,(hb.cell (p:=⟨b,o+i*3+2,none⟩) hl).trans h2,h3.keep hb⟩
theorem RatsIn.keep {w w':World} {b o:Nat} {l:List Rat} (h:RatsIn w b o l) (hb:Below w.heap.size w w'):RatsIn w' b o l:=by
 intro i q hi
 obtain ⟨s,A1,n1,c1,A2,n2,c2,h0,h1,h2,h3⟩:=h i q hi
 have hl:=World.block_lt_of_cell? w _ h0
 exact ⟨s,A1,n1,c1,A2,n2,c2,(hb.cell (p:=⟨b,o+i*3,none⟩) hl).trans h0,(hb.cell (p:=⟨b,o+i*3+1,none⟩) hl).trans h1,(hb.cell (p:=⟨b,o+i*3+2,none⟩) hl).trans h2,h3.keep hb⟩
theorem row_cell {w:World} {B:Nat} {T:TypeId} {g n cap:Nat} {xs:List Value} {j:Nat} {u:Value} (h:w.ownsRow B T 3 (.slice (some ⟨g,0,none⟩) n cap) n xs) (hj:xs[j]?=some u):w.cell? ⟨g,0+j,none⟩=some u:=by
 have:=h.cells (g:=g) rfl j u hj
 rw [Addr.add_lit] at this
 exact this
theorem Grow.nums {T:TypeId} {B:Nat} {w:World} {v:Value} {l:List Rat} (h:Grow IsNum T B w v l):∃ g cap,v=.slice (some ⟨g,0,none⟩) l.length cap∧NumsAt w g 0 l:=by
 obtain ⟨g,cap,xs,rfl,h1,-,h3⟩:=h
 refine ⟨g,cap,rfl,fun i q hi=>?_⟩
 obtain ⟨a,b,c,e1,e2,e3,hq⟩:=h3.get hi
 obtain ⟨A1,c1,A2,c2,he,-,-⟩:=id hq.opened
 injection he with he
 injection he with he
 simp only [List.cons.injEq] at he
 obtain ⟨rfl,rfl,rfl,-⟩:=he
 exact ⟨_,_,_,_,_,_,_,row_cell h1 e1,row_cell h1 e2,row_cell h1 e3,hq⟩
end Go.Proofs.YtlcimajjnfbidaaGreatDoor.Rf
namespace Go.Proofs.YtlcimajjnfbidaaGreatDoor.Rf
open Lib (hid)
open Go.RowKit
open Rx
open Vx (siz siz_num siz_den)
open List renaming getElem?_toArray → lg, getElem?_cons_zero → lz, getElem?_cons_succ → ls, setIfInBounds_toArray → lt, set_cons_zero → ly, set_cons_succ → lu
theorem wp_push {P:Program} {o:Oper} {a:Act} {w:World} {K:Act→World→Prop} {Q:Exit→Act→World→Prop} {s x:Operand} {t:TypeId}
   (ho:o.op=.call { callee:=.builtin .append,args:=#[s,x],argTypes:=#[t,t] }) {e:TypeId} {bytes:Nat} (ht:P.underlying t=some (.slice e)) (hi:(P.info? e).map (fun i=>(i.zero,i.size,i.bytes))=some (some (.agg #[.bool false,.slice none 0 0,.slice none 0 0]),3,bytes))
   {I:World→Value→Rat→Prop} (hI:∀ w w',Live w w'→∀ v q,I w v q→I w' v q) {B:Nat} {v:Value} {l:List Rat} {q:Rat} (hs:a.eval s=v) (hG:Grow I e B w v l) {k c n1 c1 n2 c2:Nat} {A1 A2:Option Addr} {s1:Bool} (hx:a.eval x=.slice (some ⟨k,0,none⟩) 1 c)
   (hrow:w.heap[k]?=some (.cells #[.bool s1,.slice A1 n1 c1,.slice A2 n2 c2] e (0,0))) (hq:I w (.agg #[.bool s1,.slice A1 n1 c1,.slice A2 n2 c2]) q) (hn:(l.length+1)*bytes≤140737488355328) (hm:l.length+1≤maxLen) (hB:B≤w.heap.size)
   (h:∀ v' w',Grow I e B w' v' (l++[q])→Live w w'→w.grownBy w' v.ownBlock→(∀ g,v'.ownBlock=some g→v.ownBlock=some g∨g=w.heap.size)→K (a.put o.dst v') w'):o.wp P a w K Q:=by
 obtain ⟨i,hi1,hi2,hi3,hi4⟩:=info_parts hi
 obtain ⟨g0,cap0,xs,hv,hown,hni,hels⟩:=hG
 obtain ⟨r0,r1,r2⟩:=cells3 hrow
 refine wp_append_ni ho ht hi1 hi2 hi3 hi4 rfl (by decide) hs hown hx (news:=[.bool s1,.slice A1 n1 c1,.slice A2 n2 c2]) rfl ?_ ?_ (by decide) hm hn hB hni ?_ ?_ ?_
 · intro j u hj
   match j with
   | 0=>obtain rfl:=Option.some.inj hj;exact r0
   | 1=>obtain rfl:=Option.some.inj hj;exact r1
   | 2=>obtain rfl:=Option.some.inj hj;exact r2
   | j+3=>simp at hj
 · intro u hu
   simp only [List.mem_cons,List.not_mem_nil,or_false] at hu
   rcases hu with rfl | rfl | rfl <;> rfl
 · intro u hu k n
   simp only [List.mem_cons,List.not_mem_nil,or_false] at hu
   rcases hu with rfl | rfl | rfl <;> simp
 · intro u hu k n
   simp only [Value.cells,List.mem_cons,List.not_mem_nil,or_false] at hu
   rcases hu with rfl | rfl | rfl <;> simp
 · intro g cap w' h1 h2 h3 h4 h5
   have LV:=live_grown hni h2
   refine h _ w' (Grow.push hels (fun v q hv=>hI _ _ LV v q hv) (hI _ _ LV _ _ hq) h1 h5) LV h2 ?_
   intro g' hg'
   obtain rfl:g=g':=Option.some.inj hg'
   exact h3
structure St (w u:World) (X:Nat) (ox oy:Obj) (av bv:Value) (la lb:List Rat) (vx vy:Value) (q:Rat):Prop where
  ga:Grow IsNum 31 w.heap.size u av la
  gb:Grow IsRat 39 w.heap.size u bv lb
  dis:∀ g,av.ownBlock=some g→bv.ownBlock≠some g
  nx:IsNum u vx q
  ny:IsRat u vy q
  rx:u.heap[X]?=some ox
  ry:u.heap[X+1]?=some oy
  ax:av.ownBlock≠some X∧av.ownBlock≠some (X+1)
  bx:bv.ownBlock≠some X∧bv.ownBlock≠some (X+1)
  hb:Below w.heap.size w u
theorem Grow.own {I:World→Value→Rat→Prop} {T:TypeId} {B:Nat} {w:World} {v:Value} {l:List Rat} (h:Grow I T B w v l):∀ g,v.ownBlock=some g→B≤g∧g<w.heap.size:=by
 obtain ⟨g,cap,xs,rfl,h1,-,-⟩:=h
 exact h1.lt
variable {w u u':World} {X:Nat} {ox oy:Obj} {av bv:Value} {la lb:List Rat} {vx vy:Value} {q:Rat}
theorem St.keep (h:St w u X ox oy av bv la lb vx vy q) (hb:Below u.heap.size u u'):St w u' X ox oy av bv la lb vx vy q :=
 ⟨h.ga.keep hb (fun _ _ k=>k.keep hb),h.gb.keep hb (fun _ _ k=>k.keep hb),h.dis,h.nx.keep hb,h.ny.keep hb,at_keep h.rx hb,at_keep h.ry hb,h.ax,h.bx,chain h.hb hb⟩
theorem liveNum:∀ w w':World,Live w w'→∀ v q,IsNum w v q→IsNum w' v q:=fun _ _ h _ _ k=>h.num k
theorem infoNum:(Tryz.prog.info? 31).map (fun i=>(i.zero,i.size,i.bytes))=some (some (.agg #[.bool false,.slice none 0 0,.slice none 0 0]),3,56):=by kernel_rfl
def vals (ss:List ByteArray):List Rat:=ss.map fun s=>(parseV s).1
theorem vals_step {ss:List ByteArray} {k:Nat} {s:ByteArray} (h:ss[k]?=some s):vals (ss.take k)++[(parseV s).1]=vals (ss.take (k+1)):=by
 rw [List.take_add_one,h,Option.toList_some]
 simp [vals]
theorem vals_len (ss:List ByteArray) (k:Nat) (h:k≤ss.length):(vals (ss.take k)).length=k:=by
 simp [vals,Nat.min_eq_left h]
def StrsAt (w:World) (ad:Option Addr) (ss:List ByteArray):Prop:=∀ (i:Nat) (s:ByteArray),ss[i]?=some s→∃ b o,ad=some ⟨b,o,none⟩∧w.cell? ⟨b,o+i,none⟩=some (.string s)
theorem StrsAt.keep {ad:Option Addr} {ss:List ByteArray} (h:StrsAt w ad ss) (hb:Below w.heap.size w u):StrsAt u ad ss:=by
 intro i s hi
 obtain ⟨b,o,e,hc⟩:=h i s hi
 exact ⟨b,o,e,(hb.cell (World.block_lt_of_cell? w _ hc)).trans hc⟩
theorem grow_nil {I:World→Value→Rat→Prop} {T:TypeId} {B:Nat} {w:World} (hB:B≤w.heap.size):Grow I T B (w.alloc (.cells #[] T)) (.slice (some ⟨w.heap.size,0,none⟩) 0 0) [] :=
 ⟨w.heap.size,0,[],rfl,World.ownsRow_made w #[] 0 hB (by decide) rfl,fun g hg o u hu=>by
   obtain rfl:w.heap.size=g:=Option.some.inj hg
   rw [cell_of_row _ _ _ _ _ _ (heap_alloc_new w _)] at hu
   simp at hu,trivial⟩
end Go.Proofs.YtlcimajjnfbidaaGreatDoor.Rf
namespace Go.Proofs.YtlcimajjnfbidaaGreatDoor.Rf
open Lib (hid)
open Go.RowKit
open Rx
open Vx (siz siz_num siz_den)
open List renaming getElem?_toArray → lg, getElem?_cons_zero → lz, getElem?_cons_succ → ls, setIfInBounds_toArray → lt, set_cons_zero → ly, set_cons_succ → lu
structure En (w wa:World) (mx:Int) (A:Option Addr) (n:Nat) (vals:Nat→Value) (cf:Nat→Rat) (bs bx bz:Nat) (P1 P2 P3 P4 X1 X2 Z1 Z2:Option Addr) (r1 r2 r3 r4 i1 i2 i3 i4:Nat) (a b x z:Rat):Prop where
  hl:NumsV wa A n vals cf
  rs:wa.heap[bs]?=some (.cells #[.bool (decide (a.num<0)),.slice P1 (Vx.len a.num.natAbs) r1,.slice P2 (Vx.len (below a.den)) r2,.bool (decide (b.num<0)),.slice P3 (Vx.len b.num.natAbs) r3,.slice P4 (Vx.len (below b.den)) r4] 48 (0,0))
  hs:IsBox wa (.agg #[.bool (decide (a.num<0)),.slice P1 (Vx.len a.num.natAbs) r1,.slice P2 (Vx.len (below a.den)) r2,.bool (decide (b.num<0)),.slice P3 (Vx.len b.num.natAbs) r3,.slice P4 (Vx.len (below b.den)) r4]) a b
  rx:wa.heap[bx]?=some (.cells #[.bool (decide (x.num<0)),.slice X1 (Vx.len x.num.natAbs) i1,.slice X2 (Vx.len (below x.den)) i2] 31 (0,0))
  hx:IsNum wa (.agg #[.bool (decide (x.num<0)),.slice X1 (Vx.len x.num.natAbs) i1,.slice X2 (Vx.len (below x.den)) i2]) x
  rz:wa.heap[bz]?=some (.cells #[.bool (decide (z.num<0)),.slice Z1 (Vx.len z.num.natAbs) i3,.slice Z2 (Vx.len (below z.den)) i4] 31 (0,0))
  hz:IsNum wa (.agg #[.bool (decide (z.num<0)),.slice Z1 (Vx.len z.num.natAbs) i3,.slice Z2 (Vx.len (below z.den)) i4]) z
  hM:wa.cell? ⟨1,0,none⟩=some (.int .i64 mx)
  hT:TabAt 0 Lib.deBruijn64tab wa
  hB:Below w.heap.size w wa
theorem En.keep {w wa:World} {mx:Int} {A:Option Addr} {n:Nat} {vals:Nat→Value} {cf:Nat→Rat} {bs bx bz:Nat} {P1 P2 P3 P4 X1 X2 Z1 Z2:Option Addr} {r1 r2 r3 r4 i1 i2 i3 i4:Nat} {a b x z:Rat} {v:World} (h:En w wa mx A n vals cf bs bx bz P1 P2 P3 P4 X1 X2 Z1 Z2 r1 r2 r3 r4 i1 i2 i3 i4 a b x z) (hb:Below wa.heap.size wa v):En w v mx A n vals cf bs bx bz P1 P2 P3 P4 X1 X2 Z1 Z2 r1 r2 r3 r4 i1 i2 i3 i4 a b x z :=
 ⟨h.hl.keep hb,at_keep h.rs hb,h.hs.keep hb,at_keep h.rx hb,h.hx.keep hb,at_keep h.rz hb,h.hz.keep hb,cell_keep h.hM hb,tab_keep h.hT hb,chain h.hB hb⟩
theorem poly_siz {a b:Rat} {m:Nat} {l:List Rat} (sa:siz a≤20000) (sb:siz b≤20000) (hl:l.length≤200) (hm:m≤256) (hs:∀ y∈l,siz y≤100000):siz (polyB a b m l).1≤40000203∧siz (polyB a b m l).2≤40000203:=by
 refine polyTo_siz fun i hi=>?_
 have:=hornB_siz (p:=(cutQ a b m i,cutQ a b m (i+1))) (M:=100000) (cut_siz sa sb (by omega) (by omega)) (cut_siz sa sb (by omega) (by omega)) l hs
 have h2:=Nat.mul_le_mul_right (100000+100000+1) hl
 unfold partB
 omega
theorem has_to {w:World} {v vx:Value} {a b x:Rat} (h1:a≤x) (h2:x≤b) (hv:IsBox w v a b) (hx:IsNum w vx x) (sa:siz a≤536870912) (sb:siz b≤536870912) (sx:siz x≤536870912) :
   Calls Tryz.prog 48 #[v,vx] w (BoolRet w true):=by
 have:=boxHas_any hv hx (Nat.le_trans sa (by omega)) (Nat.le_trans sb (by omega)) (Nat.le_trans sx (by omega))
 rwa [decide_eq_true (show a≤x∧x≤b from ⟨h1,h2⟩)] at this
theorem inside_to {w:World} {v u:Value} {a b c d:Rat} (h1:c≤a) (h2:b≤d) (hv:IsBox w v a b) (hu:IsBox w u c d) (sa:siz a≤536870912) (sb:siz b≤536870912) (sc:siz c≤536870912) (sd:siz d≤536870912) :
   Calls Tryz.prog 49 #[v,u] w (BoolRet w true):=by
 have:=boxInside_any hv hu (Nat.le_trans sa (by omega)) (Nat.le_trans sb (by omega)) (Nat.le_trans sc (by omega)) (Nat.le_trans sd (by omega))
 rwa [decide_eq_true (show c≤a∧b≤d from ⟨h1,h2⟩)] at this
theorem encl_facts {a b x z:Rat} {l:List Rat} {f g:Nat} (hax:a≤x) (hxb:x≤b) (ez:evalL l x=z) (hf:0<f) (hg:0<g) :
   (polyB a b f l).1≤z∧z≤(polyB a b f l).2∧(polyB a b (f*g) l).1≤z∧z≤(polyB a b (f*g) l).2∧(polyB a b f l).1≤(polyB a b (f*g) l).1∧(polyB a b (f*g) l).2≤(polyB a b f l).2∧(polyB x x f l).1=z∧(polyB x x f l).2=z:=by
 have h1:=polyB_has hf hax hxb l
 have h2:=polyB_has (Nat.mul_pos hf hg) hax hxb l
 have h3:=polyB_finer (Rat.le_trans hax hxb) hf hg l
 rw [ez] at h1 h2
 rw [polyB_point,ez]
 exact ⟨h1.1,h1.2,h2.1,h2.2,h3.1,h3.2,rfl,rfl⟩
theorem encl_tail {w wa:World} {mx:Int} {A:Option Addr} {n:Nat} {vals:Nat→Value} {cf:Nat→Rat} {bs bx bz:Nat} {P1 P2 P3 P4 X1 X2 Z1 Z2:Option Addr} {r1 r2 r3 r4 i1 i2 i3 i4:Nat} {a b x z:Rat} {l:List Rat} {f t cap:Nat} {y0 y1 y2 y3 y4 y5 y7 y9 y14 y15 y16 y17 y18 y19 y20 y21 y22 y23 y24 y25 y26 y27 y28 y29 y30 y31 y32 y33 y34 y35 y36 y37 y38 y39 y40 y41 y42 y43 y44 y45 y46 y47 y48 y49 y50 y51 y52 y53 y54 y55 y56 y57 y58 y59 y60 y61 y62 y63 y64 y65 y66 y67 y68 y69 y70 y71 y72 y73 y74 y75 y76 y77 y78 y79 y80 y81 y82 y83 y84 y85 y86 y87 y88 y89 y90 y91 y92 y93 y94 y95 y96 y97 y98 y99 y100 y101 y102 y103 y104 y105 y106 y107 y108 y109 y110 y111 y112 y113 y114 y115 y116 y117 y118 y119 y120 y121 y122 y123 y124 y125 y126 y127 y128 y129 y130 y131 y132 y133 y134 y135 y136 y137 y138 y139 y140 y141 y142 y143 y144 y145 y146 y147 y148 y149 y150 y151 y152 y153 y154 y155 y156 y157 y158 y159 y160 y161 y162 y163 y164:Value} (HC:En w wa mx A n vals cf bs bx bz P1 P2 P3 P4 X1 X2 Z1 Z2 r1 r2 r3 r4 i1 i2 i3 i4 a b x z) (ez:evalL l x=z) (eL:l.length=n) (hcf:∀ j,j<n→l[j]?=some (cf j)) (hn:n≤8) (hax:a≤x) (hxb:x≤b) (sa:siz a≤2000) (sb:siz b≤2000) (sx:siz x≤10000) (sc:∀ j,j<n→siz (cf j)≤100000) (hf1:0<f) (hf4:f≤4) (ht:t≤255) :
   (codeAt 9 Tryz.f6).wp Tryz.prog (bodyPost Tryz.prog Tryz.f6 (BoolRet w true)) { tmps:=#[y0,y1,y2,y3,y4,y5,.int .u8 ((t:Nat):Int),y7,.slice A n cap,y9,.pointer (some ⟨bs,0,none⟩),.int .i64 ((f:Nat):Int),.pointer (some ⟨bx,0,none⟩),.pointer (some ⟨bz,0,none⟩),y14,y15,y16,y17,y18,y19,y20,y21,y22,y23,y24,y25,y26,y27,y28,y29,y30,y31,y32,y33,y34,y35,y36,y37,y38,y39,y40,y41,y42,y43,y44,y45,y46,y47,y48,y49,y50,y51,y52,y53,y54,y55,y56,y57,y58,y59,y60,y61,y62,y63,y64,y65,y66,y67,y68,y69,y70,y71,y72,y73,y74,y75,y76,y77,y78,y79,y80,y81,y82,y83,y84,y85,y86,y87,y88,y89,y90,y91,y92,y93,y94,y95,y96,y97,y98,y99,y100,y101,y102,y103,y104,y105,y106,y107,y108,y109,y110,y111,y112,y113,y114,y115,y116,y117,y118,y119,y120,y121,y122,y123,y124,y125,y126,y127,y128,y129,y130,y131,y132,y133,y134,y135,y136,y137,y138,y139,y140,y141,y142,y143,y144,y145,y146,y147,y148,y149,y150,y151,y152,y153,y154,y155,y156,y157,y158,y159,y160,y161,y162,y163,y164],defers:=[] } wa:=by
 obtain ⟨g,hg⟩:=eX (1+t%3:Nat)
 have hg3:g≤3:=by omega
 have hg1:0<g:=by omega
 have hm:=Nat.mul_le_mul hf4 hg3
 have hmi:Int.tmod ((t:Nat):Int) 3=(((g - 1:Nat)):Int):=by rw [Int.tmod_eq_emod_of_nonneg (by omega)];omega
 have hmi2:((t:Nat):Int)%3=(((g - 1:Nat)):Int):=by omega
 have hmi3:(1:Int)+(((g - 1:Nat)):Int)=((g:Nat):Int):=by omega
 have hmi4:((f:Nat):Int)*((g:Nat):Int)=(((f*g:Nat)):Int):=by rw [Int.natCast_mul]
 obtain ⟨q1,q2,q3,q4,q5,q6,q7,q8⟩:=encl_facts hax hxb ez hf1 hg1
 have hll:l.length≤200:=by omega
 have hls:∀ y∈l,siz y≤100000:=by
   intro y hy
   obtain ⟨j,hj⟩:=List.mem_iff_getElem?.1 hy
   have hjl:j<n:=by rw [←eL];exact (List.getElem?_eq_some_iff.1 hj).1
   rw [hcf j hjl] at hj
   rw [←Option.some.inj hj]
   exact sc j hjl
 obtain ⟨t1,t2⟩:=poly_siz (m:=f) (show siz a≤20000 by omega) (show siz b≤20000 by omega) hll (by omega) hls
 obtain ⟨t3,t4⟩:=poly_siz (m:=f*g) (show siz a≤20000 by omega) (show siz b≤20000 by omega) hll (by omega) hls
 obtain ⟨t5,-⟩:=poly_siz (m:=f) (show siz x≤20000 by omega) (show siz x≤20000 by omega) hll (by omega) hls
 rw [q7] at t5
 obtain ⟨v1,ev1⟩:=eY ((polyB a b f l).1)
 obtain ⟨v2,ev2⟩:=eY ((polyB a b f l).2)
 obtain ⟨m,em⟩:=eY (f*g)
 rw [em] at hmi4 q3 q4 q5 q6 hm t3 t4
 obtain ⟨u1,eu1⟩:=eY ((polyB a b m l).1)
 obtain ⟨u2,eu2⟩:=eY ((polyB a b m l).2)
 rw [ev1] at q1 q5 t1
 rw [ev2] at q2 q6 t2
 rw [eu1] at q3 q5 t3
 rw [eu2] at q4 q6 t4
 have s1:=hid (show siz v1≤536870912 by omega)
 have s2:=hid (show siz v2≤536870912 by omega)
 have s3:=hid (show siz u1≤536870912 by omega)
 have s4:=hid (show siz u2≤536870912 by omega)
 have s5:=hid (show siz z≤536870912 by omega)
 have sx5:=hid (show siz x≤536870912 by omega)
 have sx2:=hid (show siz x≤20000 by omega)
 have sa2:=hid (show siz a≤20000 by omega)
 have sb2:=hid (show siz b≤20000 by omega)
 have n2:=hid (show n≤200 by omega)
 have f1:=hid (show 1≤f by omega)
 have f2:=hid (show f≤256 by omega)
 have m1:=hid (show 1≤m by rw [←em];exact Nat.mul_pos hf1 hg1)
 have m2:=hid (show m≤256 by omega)
 have fi:((f:Nat):Int)≤4:=by omega
 have mi:((m:Nat):Int)≤12:=by omega
 have gi:((g:Nat):Int)≤3:=by omega
 have gi2:(((g - 1:Nat)):Int)≤2:=by omega
 have hw64:=i64_small (show g - 1≤255 by omega)
 have ht255:((t:Nat):Int)≤255:=by omega
 clear t1 t2 t3 t4 t5 hls hll em hm sa sb sx hn hg hg1 hg3 hf1 hf4 hax hxb ez ht
 replace HC:=hid HC
 replace eL:=hid eL
 replace hcf:=hid hcf
 replace sc:=hid sc
 replace q1:=hid q1
 replace q2:=hid q2
 replace q3:=hid q3
 replace q4:=hid q4
 replace q5:=hid q5
 replace q6:=hid q6
 replace q7:=hid q7
 replace q8:=hid q8
 replace ev1:=hid ev1
 replace ev2:=hid ev2
 replace eu1:=hid eu1
 replace eu2:=hid eu2
 have HBs:=hid HC.out.hs
 have HRs:=hid HC.out.rs
 have HNx:=hid HC.out.hx
 have HRx:=hid HC.out.rx
 have HNz:=hid HC.out.hz
 have HRz:=hid HC.out.rz
 show Code.wp _ (Code.seq _ _) _ _ _
 obtain ⟨z_s_0,z_s_1,z_s_2,z_s_3,z_s_4,z_s_5⟩:=cells6 HRs.out
 have HX:=hid (poly_any (cap:=cap) HC.out.hl HBs.out eL.out hcf.out ev1.out ev2.out n2.out f1.out f2.out sa2.out sb2.out sc.out)
 go_wp2_with fail
 refine (HX.out).mono ?_
 rintro e w1 ⟨v1,rfl,hv1,b1⟩
 obtain ⟨C1,j1,C2,j2,C3,j3,C4,j4,rfl,-,-,-,-⟩:=id hv1.opened
 replace hv1:=hid hv1
 replace b1:=hid b1
 clear HX
 clear z_s_0 z_s_1 z_s_2 z_s_3 z_s_4 z_s_5
 go_upto_region 19 with fail
 obtain ⟨w2,hw2⟩:=eX (w1.alloc (.cells #[.bool (decide (v1.num<0)),.slice C1 (Vx.len v1.num.natAbs) j1,.slice C2 (Vx.len (below v1.den)) j2,.bool (decide (v2.num<0)),.slice C3 (Vx.len v2.num.natAbs) j3,.slice C4 (Vx.len (below v2.den)) j4] 48))
 have b2:=hid (newb1 hw2)
 have L2:=hid (newz1 hw2)
 rw [←hw2]
 clear hw2
 have y0_2:=hid (Below.step b1.out b2.out)
 obtain ⟨z_s_0,z_s_1,z_s_2,z_s_3,z_s_4,z_s_5⟩:=cells6 (at_keep HRs.out y0_2.out)
 have HX:=hid (poly_any (cap:=cap) (HC.out.keep y0_2.out).hl (HBs.out.keep y0_2.out) eL.out hcf.out eu1.out eu2.out n2.out m1.out m2.out sa2.out sb2.out sc.out)
 go_wp2_with fail
 refine (HX.out).mono ?_
 rintro e w3 ⟨v3,rfl,hv3,b3⟩
 obtain ⟨C5,j5,C6,j6,C7,j7,C8,j8,rfl,-,-,-,-⟩:=id hv3.opened
 replace hv3:=hid hv3
 replace b3:=hid b3
 clear HX
 clear z_s_0 z_s_1 z_s_2 z_s_3 z_s_4 z_s_5
 go_upto_region 20 with fail
 obtain ⟨w4,hw4⟩:=eX (w3.alloc (.cells #[.bool (decide (u1.num<0)),.slice C5 (Vx.len u1.num.natAbs) j5,.slice C6 (Vx.len (below u1.den)) j6,.bool (decide (u2.num<0)),.slice C7 (Vx.len u2.num.natAbs) j7,.slice C8 (Vx.len (below u2.den)) j8] 48))
 have b4:=hid (newb1 hw4)
 have L4:=hid (newz1 hw4)
 rw [←hw4]
 clear hw4
 have y0_4:=hid (Below.step (Below.step y0_2.out b3.out) b4.out)
 obtain ⟨z_x_0,z_x_1,z_x_2⟩:=cells3 (at_keep HRx.out y0_4.out)
 have HX:=hid (point_val (HNx.out.keep y0_4.out) sx5.out)
 go_wp2_with fail
 refine (HX.out).mono ?_
 rintro e w5 ⟨v5,rfl,hv5,b5⟩
 obtain ⟨C9,j9,C10,j10,C11,j11,C12,j12,rfl,-,-,-,-⟩:=id hv5.opened
 replace hv5:=hid hv5
 replace b5:=hid b5
 clear HX
 clear z_x_0 z_x_1 z_x_2
 have y0_5:=hid (Below.step y0_4.out b5.out)
 have HX:=hid (poly_any (cap:=cap) (HC.out.keep y0_5.out).hl hv5.out eL.out hcf.out q7.out q8.out n2.out f1.out f2.out sx2.out sx2.out sc.out)
 go_wp2_with fail
 refine (HX.out).mono ?_
 rintro e w6 ⟨v6,rfl,hv6,b6⟩
 obtain ⟨C13,j13,C14,j14,C15,j15,C16,j16,rfl,-,-,-,-⟩:=id hv6.opened
 replace hv6:=hid hv6
 replace b6:=hid b6
 clear HX
 go_upto_region 21 with fail
 obtain ⟨w7,hw7⟩:=eX (w6.alloc (.cells #[.bool (decide (z.num<0)),.slice C13 (Vx.len z.num.natAbs) j13,.slice C14 (Vx.len (below z.den)) j14,.bool (decide (z.num<0)),.slice C15 (Vx.len z.num.natAbs) j15,.slice C16 (Vx.len (below z.den)) j16] 48))
 have b7:=hid (newb1 hw7)
 have L7:=hid (newz1 hw7)
 rw [←hw7]
 clear hw7
 go_wp2_with fail
 obtain ⟨NNa,hNN⟩:=eY (w7.heap.size:Nat)
 have HSZa:Hid (w7.heap.size=NNa):=hNN
 have y2_7:=hid (Below.step (Below.step (Below.step (Below.step b3.out b4.out) b5.out) b6.out) b7.out)
 obtain ⟨z_v_0,z_v_1,z_v_2,z_v_3,z_v_4,z_v_5⟩:=cells6 (at_keep L2.out y2_7.out)
 have hlta_v:w1.heap.size<NNa:=Nat.lt_of_lt_of_eq (World.block_lt_of_cell? _ _ z_v_0) hNN
 have y4_7:=hid (Below.step (Below.step b5.out b6.out) b7.out)
 obtain ⟨z_u_0,z_u_1,z_u_2,z_u_3,z_u_4,z_u_5⟩:=cells6 (at_keep L4.out y4_7.out)
 have hlta_u:w3.heap.size<NNa:=Nat.lt_of_lt_of_eq (World.block_lt_of_cell? _ _ z_u_0) hNN
 obtain ⟨z_one_0,z_one_1,z_one_2,z_one_3,z_one_4,z_one_5⟩:=cells6 L7.out
 have hlta_one:w6.heap.size<NNa:=Nat.lt_of_lt_of_eq (World.block_lt_of_cell? _ _ z_one_0) hNN
 have y0_7:=hid (Below.step (Below.step y0_5.out b6.out) b7.out)
 obtain ⟨z_z_0,z_z_1,z_z_2⟩:=cells3 (at_keep HRz.out y0_7.out)
 have hlta_z:bz<NNa:=Nat.lt_of_lt_of_eq (World.block_lt_of_cell? _ _ z_z_0) hNN
 have H0:=Held0.start w7 NNa
 have H0':=H0
 unfold Held0 at H0'
 refine wp_region_held_drew (S:=(fun w'=>(∀ b o,b<NNa→w'.cell? ⟨b,o,none⟩=w7.cell? ⟨b,o,none⟩)∧Below (NNa) w7 w'∧Stay w7 w')) (by kernel_rfl) ?_ (fun hHeld=>?_)
 · (try dsimp only)
   exact H0'
 obtain ⟨w8,hw8⟩:=eX w7.drew
 have b8:Hid (Below w7.heap.size w7 w8):=by rw [hw8];exact ⟨rfl,rfl,rfl,Nat.le_refl _,fun _ _=>rfl⟩
 rw [←hw8] at hHeld H0 ⊢
 clear hw8 H0' hNN
 refine tk (i:=0) (h:=?_)
 try simp only [Act.put,lt,ly,lu]
 refine tk (i:=1) (h:=?_)
 try simp only [Act.put,lt,ly,lu]
 refine tk (i:=2) (h:=?_)
 try simp only [Act.put,lt,ly,lu]
 refine tk (i:=3) (h:=?_)
 try simp only [Act.put,lt,ly,lu]
 refine tk (i:=4) (h:=?_)
 try simp only [Act.put,lt,ly,lu]
 refine tk (i:=5) (h:=?_)
 try simp only [Act.put,lt,ly,lu]
 refine tk (i:=6) (h:=?_)
 try simp only [Act.put,lt,ly,lu]
 refine tk (i:=7) (h:=?_)
 try simp only [Act.put,lt,ly,lu]
 refine tk (i:=8) (h:=?_)
 try simp only [Act.put,lt,ly,lu]
 refine tk (i:=9) (h:=?_)
 try simp only [Act.put,lt,ly,lu]
 refine tk (i:=10) (h:=?_)
 try simp only [Act.put,lt,ly,lu]
 refine tk (i:=11) (h:=?_)
 try simp only [Act.put,lt,ly,lu]
 refine tk (i:=12) (h:=?_)
 try simp only [Act.put,lt,ly,lu]
 have y1_8:=hid (Below.step (Below.step (Below.step (Below.step (Below.step (Below.step b2.out b3.out) b4.out) b5.out) b6.out) b7.out) b8.out)
 have y0_8:=hid (Below.step y0_7.out b8.out)
 refine wpAnyH_ready (rs:=[13]) (by kernel_rfl) (by simp) (AllReadyH.cons (o:=?oq14) ?eq14 ?kq14 AllReadyH.nil)
 case eq14=>simp only [lg,lz,ls];rfl
 intro K hK;go_simp;go_at_call 48
 refine (has_to q1.out q2.out (hv1.out.keep y1_8.out) (HNz.out.keep y0_8.out) s1.out s2.out s5.out).mono ?_
 rintro e w9 ⟨rfl,b9⟩
 replace b9:=hid b9
 have hk9:=hcall H0 HSZa b9.out;have hk9':=hk9;unfold Held0 at hk9';clear hHeld H0
 refine hK.out _ _ ?_ (fun hHeld=>?_)
 · (try dsimp only);with_reducible exact hk9'
 clear hK K hk9';try simp only [Act.put,lt,ly,lu]
 refine tk (i:=14) (h:=?_)
 try simp only [Act.put,lt,ly,lu]
 refine tk (i:=15) (h:=?_)
 try simp only [Act.put,lt,ly,lu]
 refine tk (i:=16) (h:=?_)
 try simp only [Act.put,lt,ly,lu]
 refine tk (i:=17) (h:=?_)
 try simp only [Act.put,lt,ly,lu]
 have y3_9:=hid (Below.step (Below.step (Below.step (Below.step (Below.step b4.out b5.out) b6.out) b7.out) b8.out) b9.out)
 have y0_9:=hid (Below.step y0_8.out b9.out)
 refine wpAnyH_ready (rs:=[18]) (by kernel_rfl) (by simp) (AllReadyH.cons (o:=?oq19) ?eq19 ?kq19 AllReadyH.nil)
 case eq19=>simp only [lg,lz,ls];rfl
 intro K hK;go_simp;go_at_call 48
 refine (has_to q3.out q4.out (hv3.out.keep y3_9.out) (HNz.out.keep y0_9.out) s3.out s4.out s5.out).mono ?_
 rintro e w10 ⟨rfl,b10⟩
 replace b10:=hid b10
 have hk10:=hcall hk9 HSZa b10.out;have hk10':=hk10;unfold Held0 at hk10';clear hHeld hk9
 refine hK.out _ _ ?_ (fun hHeld=>?_)
 · (try dsimp only);with_reducible exact hk10'
 clear hK K hk10';try simp only [Act.put,lt,ly,lu]
 refine tk (i:=19) (h:=?_)
 try simp only [Act.put,lt,ly,lu]
 refine tk (i:=20) (h:=?_)
 try simp only [Act.put,lt,ly,lu]
 refine tk (i:=21) (h:=?_)
 try simp only [Act.put,lt,ly,lu]
 refine tk (i:=22) (h:=?_)
 try simp only [Act.put,lt,ly,lu]
 have y3_10:=hid (Below.step y3_9.out b10.out)
 have y1_10:=hid (Below.step (Below.step y1_8.out b9.out) b10.out)
 refine wpAnyH_ready (rs:=[23]) (by kernel_rfl) (by simp) (AllReadyH.cons (o:=?oq24) ?eq24 ?kq24 AllReadyH.nil)
 case eq24=>simp only [lg,lz,ls];rfl
 intro K hK;go_simp;go_at_call 49
 refine (inside_to q5.out q6.out (hv3.out.keep y3_10.out) (hv1.out.keep y1_10.out) s3.out s4.out s1.out s2.out).mono ?_
 rintro e w11 ⟨rfl,b11⟩
 replace b11:=hid b11
 have hk11:=hcall hk10 HSZa b11.out;have hk11':=hk11;unfold Held0 at hk11';clear hHeld hk10
 refine hK.out _ _ ?_ (fun hHeld=>?_)
 · (try dsimp only);with_reducible exact hk11'
 clear hK K hk11';try simp only [Act.put,lt,ly,lu]
 refine tk (i:=24) (h:=?_)
 try simp only [Act.put,lt,ly,lu]
 refine tk (i:=25) (h:=?_)
 try simp only [Act.put,lt,ly,lu]
 refine tk (i:=26) (h:=?_)
 try simp only [Act.put,lt,ly,lu]
 refine tk (i:=28) (h:=?_)
 try simp only [Act.put,lt,ly,lu]
 have y6_11:=hid (Below.step (Below.step (Below.step (Below.step b7.out b8.out) b9.out) b10.out) b11.out)
 refine wpAnyH_ready (rs:=[27]) (by kernel_rfl) (by simp) (AllReadyH.cons (o:=?oq29) ?eq29 ?kq29 AllReadyH.nil)
 case eq29=>simp only [lg,lz,ls];rfl
 intro K hK;go_simp;go_at_call 51
 refine (lo_val (hv6.out.keep y6_11.out) s5.out).mono ?_
 rintro e w12 ⟨v12,rfl,hv12,b12⟩
 obtain ⟨C17,j17,C18,j18,rfl,-,-⟩:=id hv12.opened
 replace hv12:=hid hv12
 replace b12:=hid b12
 have hk12:=hcall hk11 HSZa b12.out;have hk12':=hk12;unfold Held0 at hk12';clear hHeld hk11
 refine hK.out _ _ ?_ (fun hHeld=>?_)
 · (try dsimp only);with_reducible exact hk12'
 clear hK K hk12';try simp only [Act.put,lt,ly,lu]
 have y0_12:=hid (Below.step (Below.step (Below.step y0_9.out b10.out) b11.out) b12.out)
 refine wpAnyH_ready (rs:=[29]) (by kernel_rfl) (by simp) (AllReadyH.cons (o:=?oq30) ?eq30 ?kq30 AllReadyH.nil)
 case eq30=>simp only [lg,lz,ls];rfl
 intro K hK;go_simp;go_at_call 50
 refine (equal_to hv12.out (HNz.out.keep y0_12.out) rfl s5.out (HC.out.keep y0_12.out).hT).mono ?_
 rintro e w13 ⟨rfl,b13⟩
 replace b13:=hid b13
 have hk13:=hcall hk12 HSZa b13.out;have hk13':=hk13;unfold Held0 at hk13';clear hHeld hk12
 refine hK.out _ _ ?_ (fun hHeld=>?_)
 · (try dsimp only);with_reducible exact hk13'
 clear hK K hk13';try simp only [Act.put,lt,ly,lu]
 refine tk (i:=30) (h:=?_)
 try simp only [Act.put,lt,ly,lu]
 refine tk (i:=31) (h:=?_)
 try simp only [Act.put,lt,ly,lu]
 refine tk (i:=32) (h:=?_)
 try simp only [Act.put,lt,ly,lu]
 refine tk (i:=34) (h:=?_)
 try simp only [Act.put,lt,ly,lu]
 have y6_13:=hid (Below.step (Below.step y6_11.out b12.out) b13.out)
 refine wpAnyH_ready (rs:=[33]) (by kernel_rfl) (by simp) (AllReadyH.cons (o:=?oq35) ?eq35 ?kq35 AllReadyH.nil)
 case eq35=>simp only [lg,lz,ls];rfl
 intro K hK;go_simp;go_at_call 52
 refine (hi_val (hv6.out.keep y6_13.out) s5.out).mono ?_
 rintro e w14 ⟨v14,rfl,hv14,b14⟩
 obtain ⟨C19,j19,C20,j20,rfl,-,-⟩:=id hv14.opened
 replace hv14:=hid hv14
 replace b14:=hid b14
 have hk14:=hcall hk13 HSZa b14.out;have hk14':=hk14;unfold Held0 at hk14';clear hHeld hk13
 refine hK.out _ _ ?_ (fun hHeld=>?_)
 · (try dsimp only);with_reducible exact hk14'
 clear hK K hk14';try simp only [Act.put,lt,ly,lu]
 have y0_14:=hid (Below.step (Below.step y0_12.out b13.out) b14.out)
 refine wpAnyH_ready (rs:=[35]) (by kernel_rfl) (by simp) (AllReadyH.cons (o:=?oq36) ?eq36 ?kq36 AllReadyH.nil)
 case eq36=>simp only [lg,lz,ls];rfl
 intro K hK;go_simp;go_at_call 50
 refine (equal_to hv14.out (HNz.out.keep y0_14.out) rfl s5.out (HC.out.keep y0_14.out).hT).mono ?_
 rintro e w15 ⟨rfl,b15⟩
 replace b15:=hid b15
 have hk15:=hcall hk14 HSZa b15.out;have hk15':=hk15;unfold Held0 at hk15';clear hHeld hk14
 refine hK.out _ _ ?_ (fun hHeld=>?_)
 · (try dsimp only);with_reducible exact hk15'
 clear hK K hk15';try simp only [Act.put,lt,ly,lu]
 refine tk (i:=36) (h:=?_)
 try simp only [Act.put,lt,ly,lu]
 refine tk (i:=37) (h:=?_)
 try simp only [Act.put,lt,ly,lu]
 have y0_15:=hid (Below.step y0_14.out b15.out)
 refine wpAnyH_ready (rs:=[38]) (by kernel_rfl) (by simp) (AllReadyH.cons (o:=?oq39) ?eq39 ?kq39 AllReadyH.nil)
 case eq39=>simp only [lg,lz,ls];rfl
 intro K hK;go_simp;go_at_call 8
 refine (known_any (HC.out.keep y0_15.out).hM (HC.out.keep y0_15.out).hT).mono ?_
 rintro e w16 ⟨rfl,b16⟩
 replace b16:=hid b16
 have hk16:=hcall hk15 HSZa b16.out;have hk16':=hk16;unfold Held0 at hk16';clear hHeld hk15
 refine hK.out _ _ ?_ (fun hHeld=>?_)
 · (try dsimp only);with_reducible exact hk16'
 clear hK K hk16';try simp only [Act.put,lt,ly,lu]
 refine tk (i:=39) (h:=?_)
 try simp only [Act.put,lt,ly,lu]
 refine tk (i:=40) (h:=?_)
 try simp only [Act.put,lt,ly,lu]
 have y0_16:=hid (Below.step y0_15.out b16.out)
 have HE:=hid (HC.out.keep y0_16.out).hB
 refine wpAnyH_done (by kernel_rfl) ?_ _
 clear hHeld
 go_wp2_with fail
 go_ret
 exact ⟨rfl,HE.out⟩
end Go.Proofs.YtlcimajjnfbidaaGreatDoor.Rf
