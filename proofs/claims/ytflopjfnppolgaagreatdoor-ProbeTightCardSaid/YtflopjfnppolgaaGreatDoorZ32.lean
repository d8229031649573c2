/-
  Contracts of the functions that the law calls, for every input (Ua Ub Qb BoxL GrF Ql).
-/
import Derived.Test.YtflopjfnppolgaaGreatDoorZ00
import Derived.Test.YtflopjfnppolgaaGreatDoorZ30
import Derived.Test.YtflopjfnppolgaaGreatDoorZ31
import Derived.Deep.AppendLies
import Derived.OwnWalk
import Derived.Test.YtflopjfnppolgaaGreatDoorZ19
import Derived.Test.YtflopjfnppolgaaGreatDoorZ18
import Derived.Test.YtflopjfnppolgaaGreatDoorZ11
import Derived.Test.YtflopjfnppolgaaGreatDoorZ08
import Derived.Test.YtflopjfnppolgaaGreatDoorZ09
set_option linter.all false
set_option maxRecDepth 100000
set_option maxHeartbeats 40000000
namespace Go.Proofs.YtflopjfnppolgaaGreatDoor.Rf
open Lib (hid)
open Go.RowKit
open Rx
open Vx (Aa' Ai Ai')
def NI (u:Value):Prop:=∀ (k:IntKind) (n:Int),u≠.int k n
def Ca (w:World) (v:Value):Prop:=∀ g,v.ownBlock=some g→∀ (o:Nat) (u:Value),w.cell? ⟨g,o,none⟩=some u→NI u
theorem Dw {w:World} {g:Nat} {cs:Array Value} {T:TypeId} {fr:Nat × Nat} (hb:w.heap[g]?=some (.cells cs T fr)) (h:∀ u∈cs.toList,NI u):∀ (o:Nat) (u:Value),w.cell? ⟨g,o,none⟩=some u→NI u:=by
 intro o u hu
 rw [cR _ _ _ _ _ _ hb] at hu
 exact h u (List.mem_of_getElem? (by rw [Array.getElem?_toList];exact hu))
theorem ID' {z:Array Value} {n:Nat} (h0:0<z.size) (h:∀ u∈z.toList,NI u):∀ u∈(Builtin.zeroCells z n).toList,NI u:=by
 intro u hu
 simp only [Builtin.zeroCells,Array.toList_map,List.mem_map] at hu
 obtain ⟨i,-,rfl⟩:=hu
 have hlt:i%z.size<z.size:=Nat.mod_lt _ h0
 rw [getElem!_pos z _ hlt]
 exact h _ (Array.getElem_mem_toList hlt)
theorem DT {a b:List Value} (ha:∀ u∈a,NI u) (hb:∀ u∈b,NI u):∀ u∈a++b,NI u:=by
 intro u hu
 rcases List.mem_append.1 hu with h | h
 · exact ha u h
 · exact hb u h
theorem EL' {P:Program} {w:World} {t ty e:TypeId} {base size bytes:Nat} {i:TypeInfo} {z v:Value} (ht:P.underlying t=some (.slice e)) (hi:P.info? e=some i) (hz:i.zero=some z)
   (hsize:i.size=size) (hby:i.bytes=bytes) (hzs:z.cells.size=size) (hsz:0<size) {n:Nat} {xs:List Value} (hown:w.ownsRow base e size v n xs)
   {ad:Addr} {m c:Nat} {news:List Value} (hl:news.length=m*size) (hnews:∀ j u,news[j]?=some u→w.cell? (ad.add j)=some u) (h1:∀ u∈news,u.oneCell'=true)
   (hm:0<m) (h63:n+m≤maxLen) (hbytes:(n+m)*bytes≤140737488355328) (hbase:base≤w.heap.size) (hni:Ca w v) (hnn:∀ u∈news,NI u) (hzn:∀ u∈z.cells.toList,NI u) :
   ∃ g cap w',(Builtin.append_ #[t,t] ty #[v,.slice (some ad) m c]).run P w=.ok (.slice (some ⟨g,0,none⟩) (n+m) cap) w' ∧
     w'.ownsRow base e size (.slice (some ⟨g,0,none⟩) (n+m) cap) (n+m) (xs++news)∧w.grownBy w' v.ownBlock∧(v.ownBlock=some g∨g=w.heap.size)∧g<w'.heap.size∧Ca w' (.slice (some ⟨g,0,none⟩) (n+m) cap):=by
 obtain ⟨g,cap,w',hr,h2,h3,h4,h5⟩:=run_append_lies (P:=P) w t ty base e i z size bytes ht hi hz hsize hby hzs hsz v n xs hown ad m c news hl hnews h1 hm h63 hbytes hbase w.heap.size rfl
 refine ⟨g,cap,w',hr,h2,h3,h4,h5,?_⟩
 subst hsize
 subst hby
 have big:n+m≤9223372036854775807:=by simp only [maxLen] at h63;omega
 have hz0:0<z.cells.size:=by omega
 have hxs:∀ u∈xs,NI u:=by
   intro u hu
   obtain ⟨j,hj⟩:=List.mem_iff_getElem?.1 hu
   rcases hown.2 with ⟨-,h0⟩ | ⟨g0,cap0,cur,hv,-,hg,-,-,-,htk⟩
   · have:=hown.1
     rw [h0,Nat.zero_mul] at this
     rw [List.eq_nil_of_length_eq_zero this] at hu
     cases hu
   · refine hni g0 (by rw [hv];rfl) j u ?_
     rw [cR _ _ _ _ _ _ hg,←Array.getElem?_toList]
     rw [←htk] at hj
     rw [List.getElem?_take] at hj
     split at hj
     · exact hj
     · cases hj
 have key:∀ (old:Nat) (cs:List Value),(∀ u∈cs,NI u)→∀ u':World,u'.heap[g]?=some (.cells (cs.toArray++Builtin.zeroCells z.cells old) e (0,0))→Ca u' (.slice (some ⟨g,0,none⟩) (n+m) cap):=by
   intro old cs hcs u' hb g' hg'
   have:g=g':=Option.some.inj hg'
   subst this
   refine Dw hb ?_
   rw [Array.toList_append]
   exact DT hcs (ID' hz0 hzn)
 rcases hown.2 with ⟨rfl,rfl⟩ | ⟨g0,cap0,cur,rfl,hbg,hg,hnc,hcm,hcs,htk⟩
 · have hr2:=run_append_nil (P:=P) w t ty e i z ht hi hz ad m c news hl hnews (by omega) (by omega) (by have hb:=hbytes;simp only [Nat.zero_add] at hb;omega)
   rw [hr2] at hr
   injection hr with e1 e2
   injection e1 with e3 e4 e5
   injection e3 with e6
   injection e6 with e7
   refine key (grownCap w m 0 e - m) news hnn w' ?_
   rw [←e2,←e7]
   exact hA_ w.drew _
 · by_cases hroom:n+m≤cap0
   · have hfit:n*i.size+news.length≤cur.size:=by rw [hl,hcs,←Nat.add_mul];exact Nat.mul_le_mul_right _ hroom
     have hr2:=run_append_room (P:=P) w t ty e i ht hi g0 n cap0 cur hg ad m c news hl hnews h1 hroom hfit
     rw [hr2] at hr
     injection hr with e1 e2
     injection e1 with e3 e4 e5
     injection e3 with e6
     injection e6 with e7
     subst e7
     intro g' hg'
     have:g0=g':=Option.some.inj hg'
     subst this
     rw [←e2]
     refine Dw (setRow_heap w g0 cur _ e _ hg) ?_
     have hcur:∀ u∈cur.toList,NI u:=by
       intro u hu
       obtain ⟨j,hj⟩:=List.mem_iff_getElem?.1 hu
       exact hni g0 rfl j u (by rw [cR _ _ _ _ _ _ hg,←Array.getElem?_toList];exact hj)
     exact DT (DT (fun u hu=>hcur u (List.mem_of_mem_take hu)) hnn) (fun u hu=>hcur u (List.mem_of_mem_drop hu))
   · have holds:∀ j u,xs[j]?=some u→w.cell? ((⟨g0,0,none⟩:Addr).add j)=some u:=hown.cells (g:=g0) rfl
     have hr2:=run_append_grow (P:=P) w t ty e i z ht hi hz ⟨g0,0,none⟩ n cap0 xs hown.1 holds ad m c news hl hnews (by omega) (by omega) (growslice_fits (by omega) hbytes)
     rw [hr2] at hr
     injection hr with e1 e2
     injection e1 with e3 e4 e5
     injection e3 with e6
     injection e6 with e7
     refine key (grownCap w (n+m) cap0 e - (n+m)) (xs++news) (DT hxs hnn) w' ?_
     rw [←e2,←e7,←List.append_toArray]
     exact hA_ w.drew _
theorem Dg {P:Program} {o:Oper} {a:Act} {w:World} {K:Act→World→Prop} {Q:Exit→Act→World→Prop} {s x:Operand} {t:TypeId}
   (ho:o.op=.call { callee:=.builtin .append,args:=#[s,x],argTypes:=#[t,t] }) {base size bytes:Nat} {e:TypeId} {i:TypeInfo} {z:Value} (ht:P.underlying t=some (.slice e)) (hi:P.info? e=some i) (hz:i.zero=some z)
   (hsize:i.size=size) (hby:i.bytes=bytes) (hzs:z.cells.size=size) (hsz:0<size) {v:Value} {n:Nat} {xs:List Value} (hs:a.eval s=v) (hown:w.ownsRow base e size v n xs)
   {ad:Addr} {m c:Nat} {news:List Value} (hx:a.eval x=.slice (some ad) m c) (hl:news.length=m*size) (hnews:∀ j u,news[j]?=some u→w.cell? (ad.add j)=some u) (h1:∀ u∈news,u.oneCell'=true)
   (hm:0<m) (h63:n+m≤maxLen) (hbytes:(n+m)*bytes≤140737488355328) (hbase:base≤w.heap.size) (hni:Ca w v) (hnn:∀ u∈news,NI u) (hzn:∀ u∈z.cells.toList,NI u)
   (h:∀ g cap w',w'.ownsRow base e size (.slice (some ⟨g,0,none⟩) (n+m) cap) (n+m) (xs++news)→w.grownBy w' v.ownBlock→(v.ownBlock=some g∨g=w.heap.size)→g<w'.heap.size→Ca w' (.slice (some ⟨g,0,none⟩) (n+m) cap) →
     K (a.put o.dst (.slice (some ⟨g,0,none⟩) (n+m) cap)) w'):o.wp P a w K Q:=by
 obtain ⟨g,cap,w',hr,h2,h3,h4,h5,h6⟩:=EL' (P:=P) (ty:=o.type) ht hi hz hsize hby hzs hsz hown hl hnews h1 hm h63 hbytes hbase hni hnn hzn (c:=c)
 unfold Oper.wp execOp
 simp only [ho,resolve,invoke,builtin,Sem.run_bind,Sem.run_pure,Result.andThen_ok,List.map_toArray,List.map_cons,List.map_nil,hs,hx,hr]
 exact h g cap w' h2 h3 h4 h5 h6
theorem DT' {w w':World} {v:Value} (hni:Ca w v) (hg:w.grownBy w' v.ownBlock):A9 w w':=by
 have hb:∀ (g o:Nat) (n:Int) (k:IntKind),w.cell? ⟨g,o,none⟩=some (.int k n)→some g≠v.ownBlock:=fun g o n k hc he=>hni g he.symm o _ hc k n rfl
 have hN:∀ x z,Nt w x z→Nt w' x z:=by
   rintro x z ⟨A,c,h1,h2,h3,h4,h5⟩
   refine ⟨A,c,h1,h2,h3,h4,fun hx=>?_⟩
   obtain ⟨b,o,h6,h7,h8⟩:=h5 hx
   have hne:some b≠v.ownBlock:=hb b (o+0) _ _ (h8 0 (Vx.Ak.2 hx))
   exact ⟨b,o,h6,ltl h7 hg.size,fun j hj=>(hg.cell_far ⟨b,o+j,none⟩ h7 hne).trans (h8 j hj)⟩
 have hB:∀ x z,Ap' w x z→Ap' w' x z:=by
   rintro x z ⟨A,c,h1,h2,h3,h4,h5⟩
   refine ⟨A,c,h1,h2,h3,h4,fun hx=>?_⟩
   obtain ⟨b,o,h6,h7,h8⟩:=h5 hx
   have hne:some b≠v.ownBlock:=hb b (o+0) _ _ (h8 0 hx)
   exact ⟨b,o,h6,ltl h7 hg.size,fun j hj=>(hg.cell_far ⟨b,o+j,none⟩ h7 hne).trans (h8 j hj)⟩
 exact ⟨fun x z h=>hN x z h,fun x z h=>hB x z h⟩
def Cn' (I:Value→Rat→Prop):List Value→List Rat→Prop
  | [],[]=>True
  | a::b::c::xs,q::l=>I (.agg #[a,b,c]) q∧Cn' I xs l
  | _,_=>False
theorem Cn'.mono {I J:Value→Rat→Prop} (hI:∀ v q,I v q→J v q):∀ {l:List Rat} {xs:List Value},Cn' I xs l→Cn' J xs l
 | [],[],_=>trivial
 | _::_,_::_::_::_,h=>⟨hI _ _ h.1,h.2.mono hI⟩
 | _::_,[],h=>h.elim
 | _::_,[_],h=>h.elim
 | _::_,[_,_],h=>h.elim
 | [],[_],h=>h.elim
 | [],[_,_],h=>h.elim
 | [],_::_::_::_,h=>h.elim
theorem Cn'.snoc {I:Value→Rat→Prop} {a b c:Value} {q:Rat} (hq:I (.agg #[a,b,c]) q):∀ {l:List Rat} {xs:List Value},Cn' I xs l→Cn' I (xs++[a,b,c]) (l++[q])
 | [],[],_=>⟨hq,trivial⟩
 | _::_,_::_::_::_,h=>⟨h.1,h.2.snoc hq⟩
 | _::_,[],h=>h.elim
 | _::_,[_],h=>h.elim
 | _::_,[_,_],h=>h.elim
 | [],[_],h=>h.elim
 | [],[_,_],h=>h.elim
 | [],_::_::_::_,h=>h.elim
theorem Cn'.length {I:Value→Rat→Prop}:∀ {l:List Rat} {xs:List Value},Cn' I xs l→xs.length=l.length*3
 | [],[],_=>rfl
 | _::_,_::_::_::_,h=>by have:=h.2.length;simp only [List.length_cons];omega
 | _::_,[],h=>h.elim
 | _::_,[_],h=>h.elim
 | _::_,[_,_],h=>h.elim
 | [],[_],h=>h.elim
 | [],[_,_],h=>h.elim
 | [],_::_::_::_,h=>h.elim
theorem Cn'.get {I:Value→Rat→Prop}:∀ {l:List Rat} {xs:List Value} {i:Nat} {q:Rat},Cn' I xs l→l[i]?=some q→∃ a b c,xs[i*3]?=some a∧xs[i*3+1]?=some b∧xs[i*3+2]?=some c∧I (.agg #[a,b,c]) q
 | _::_,a::b::c::_,0,_,h,e=>by
   obtain rfl:=Option.some.inj e
   exact ⟨a,b,c,rfl,rfl,rfl,h.1⟩
 | _::_,a::b::c::_,i+1,_,h,e=>by
   obtain ⟨x,y,z,h1,h2,h3,h4⟩:=Cn'.get (i:=i) h.2 e
   have e3:(i+1)*3=i*3+3:=by omega
   have e4:(i+1)*3+1=i*3+1+3:=by omega
   have e5:(i+1)*3+2=i*3+2+3:=by omega
   exact ⟨x,y,z,by rw [e3];exact h1,by rw [e4];exact h2,by rw [e5];exact h3,h4⟩
 | _::_,[],_,_,h,_=>h.elim
 | _::_,[_],_,_,h,_=>h.elim
 | _::_,[_,_],_,_,h,_=>h.elim
 | [],_,_,_,_,e=>by simp at e
def A5' (I:World→Value→Rat→Prop) (T:TypeId) (B:Nat) (w:World) (v:Value) (l:List Rat):Prop :=
  ∃ g cap xs,v=.slice (some ⟨g,0,none⟩) l.length cap∧w.ownsRow B T 3 v l.length xs∧Ca w v∧Cn' (I w) xs l
theorem EM {w w':World} {B:Nat} {T:TypeId} {v:Value} {n:Nat} {xs:List Value} (h:w.ownsRow B T 3 v n xs) (hb:∀ g,v.ownBlock=some g→g<w.heap.size→w'.heap[g]?=w.heap[g]?):w'.ownsRow B T 3 v n xs:=by
 refine ⟨h.1,?_⟩
 rcases h.2 with h0 | ⟨g,cap,cur,hv,h1,h2,h3⟩
 · exact Or.inl h0
 · exact Or.inr ⟨g,cap,cur,hv,h1,(hb g (by rw [hv];rfl) (gE.1 h2).1).trans h2,h3⟩
theorem FB' {w w':World} {v:Value} (h:Ca w v) (hl:∀ g,v.ownBlock=some g→g<w.heap.size) (hb:∀ g,v.ownBlock=some g→g<w.heap.size→w'.heap[g]?=w.heap[g]?):Ca w' v:=by
 intro g hg o u hu
 rw [World.cell?_of_block (a:=⟨g,o,none⟩) (hb g hg (hl g hg))] at hu
 exact h g hg o u hu
theorem A5'.block {I:World→Value→Rat→Prop} {T:TypeId} {B:Nat} {w w':World} {v:Value} {l:List Rat} (h:A5' I T B w v l) (hb:∀ g,v.ownBlock=some g→g<w.heap.size→w'.heap[g]?=w.heap[g]?) (hI:∀ v q,I w v q→I w' v q):A5' I T B w' v l:=by
 obtain ⟨g,cap,xs,hv,h1,h2,h3⟩:=h
 exact ⟨g,cap,xs,hv,EM h1 hb,FB' h2 (fun k hk=>(h1.lt k hk).2) hb,h3.mono hI⟩
theorem A5'.keep {I:World→Value→Rat→Prop} {T:TypeId} {B:Nat} {w w':World} {v:Value} {l:List Rat} (h:A5' I T B w v l) (hb:Below w.heap.size w w') (hI:∀ v q,I w v q→I w' v q):A5' I T B w' v l:=h.block (fun g _ hlt=>hb.block g hlt) hI
theorem A5'.other {I:World→Value→Rat→Prop} {T:TypeId} {B:Nat} {w w':World} {v v':Value} {l:List Rat} (h:A5' I T B w v l) (hg:w.grownBy w' v'.ownBlock) (hne:∀ g,v.ownBlock=some g→v'.ownBlock≠some g) (hI:∀ v q,I w v q→I w' v q):A5' I T B w' v l :=
 h.block (fun g hv hlt=>hg.block g hlt (fun e=>hne g hv e.symm)) hI
theorem A5'.push {I:World→Value→Rat→Prop} {T:TypeId} {B:Nat} {w w':World} {l:List Rat} {g cap:Nat} {xs:List Value} {a b c:Value} {q:Rat} (hx:Cn' (I w) xs l) (hI:∀ v q,I w v q→I w' v q) (hq:I w' (.agg #[a,b,c]) q)
   (hown:w'.ownsRow B T 3 (.slice (some ⟨g,0,none⟩) (l.length+1) cap) (l.length+1) (xs++[a,b,c])) (hni:Ca w' (.slice (some ⟨g,0,none⟩) (l.length+1) cap)):A5' I T B w' (.slice (some ⟨g,0,none⟩) (l.length+1) cap) (l++[q]):=by
 have e:(l++[q]).length=l.length+1:=by simp
 exact ⟨g,cap,xs++[a,b,c],by rw [e],by rw [e];exact hown,hni,(hx.mono hI).snoc hq⟩
def AG (w:World) (b o:Nat) (l:List Rat):Prop:=∀ (i:Nat) (q:Rat),l[i]?=some q→∃ s A1 n1 c1 A2 n2 c2,w.cell? ⟨b,o+i*3,none⟩=some (.bool s)∧w.cell? ⟨b,o+i*3+1,none⟩=some (.slice A1 n1 c1)∧w.cell? ⟨b,o+i*3+2,none⟩=some (.slice A2 n2 c2)∧Ac' w (.agg #[.bool s,.slice A1 n1 c1,.slice A2 n2 c2]) q
def DU (w:World) (b o:Nat) (l:List Rat):Prop:=∀ (i:Nat) (q:Rat),l[i]?=some q→∃ s A1 n1 c1 A2 n2 c2,w.cell? ⟨b,o+i*3,none⟩=some (.bool s)∧w.cell? ⟨b,o+i*3+1,none⟩=some (.slice A1 n1 c1)∧w.cell? ⟨b,o+i*3+2,none⟩=some (.slice A2 n2 c2)∧Ah w (.agg #[.bool s,.slice A1 n1 c1,.slice A2 n2 c2]) q
theorem AG.keep {w w':World} {b o:Nat} {l:List Rat} (h:AG w b o l) (hb:Below w.heap.size w w'):AG w' b o l:=by
 intro i q hi
 obtain ⟨s,A1,n1,c1,A2,n2,c2,h0,h1,h2,h3⟩:=h i q hi
 have hl:=bL w _ h0
 exact ⟨s,A1,n1,c1,A2,n2,c2,(hb.cell (p:=⟨b,o+i*3,none⟩) hl).trans h0,(hb.cell (p:=⟨b,o+i*3+1,none⟩) hl).trans h1,(hb.cell (p:=⟨b,o+i*3+2,none⟩) hl).trans h2,h3.keep hb⟩
theorem DU.keep {w w':World} {b o:Nat} {l:List Rat} (h:DU w b o l) (hb:Below w.heap.size w w'):DU w' b o l:=by
 intro i q hi
 obtain ⟨s,A1,n1,c1,A2,n2,c2,h0,h1,h2,h3⟩:=h i q hi
 have hl:=bL w _ h0
 exact ⟨s,A1,n1,c1,A2,n2,c2,(hb.cell (p:=⟨b,o+i*3,none⟩) hl).trans h0,(hb.cell (p:=⟨b,o+i*3+1,none⟩) hl).trans h1,(hb.cell (p:=⟨b,o+i*3+2,none⟩) hl).trans h2,h3.keep hb⟩
theorem Cf' {w:World} {B:Nat} {T:TypeId} {g n cap:Nat} {xs:List Value} {j:Nat} {u:Value} (h:w.ownsRow B T 3 (.slice (some ⟨g,0,none⟩) n cap) n xs) (hj:xs[j]?=some u):w.cell? ⟨g,0+j,none⟩=some u:=by
 have:=h.cells (g:=g) rfl j u hj
 rw [Addr.add_lit] at this
 exact this
theorem A5'.nums {T:TypeId} {B:Nat} {w:World} {v:Value} {l:List Rat} (h:A5' Ac' T B w v l):∃ g cap,v=.slice (some ⟨g,0,none⟩) l.length cap∧AG w g 0 l:=by
 obtain ⟨g,cap,xs,rfl,h1,-,h3⟩:=h
 refine ⟨g,cap,rfl,fun i q hi=>?_⟩
 obtain ⟨a,b,c,e1,e2,e3,hq⟩:=h3.get hi
 obtain ⟨A1,c1,A2,c2,he,-,-⟩:=id hq.opened
 injection he with he
 injection he with he
 simp only [List.cons.injEq] at he
 obtain ⟨rfl,rfl,rfl,-⟩:=he
 exact ⟨_,_,_,_,_,_,_,Cf' h1 e1,Cf' h1 e2,Cf' h1 e3,hq⟩
theorem A5'.rats {T:TypeId} {B:Nat} {w:World} {v:Value} {l:List Rat} (h:A5' Ah T B w v l):∃ g cap,v=.slice (some ⟨g,0,none⟩) l.length cap∧DU w g 0 l:=by
 obtain ⟨g,cap,xs,rfl,h1,-,h3⟩:=h
 refine ⟨g,cap,rfl,fun i q hi=>?_⟩
 obtain ⟨a,b,c,e1,e2,e3,hq⟩:=h3.get hi
 obtain ⟨A1,c1,A2,c2,he,-,-⟩:=id hq.opened
 injection he with he
 injection he with he
 simp only [List.cons.injEq] at he
 obtain ⟨rfl,rfl,rfl,-⟩:=he
 exact ⟨_,_,_,_,_,_,_,Cf' h1 e1,Cf' h1 e2,Cf' h1 e3,hq⟩
open List renaming getElem?_toArray → lg, getElem?_cons_zero → lz, getElem?_cons_succ → ls, setIfInBounds_toArray → lt, set_cons_zero → ly, set_cons_succ → lu
theorem FQ' {P:Program} {o:Oper} {a:Act} {w:World} {K:Act→World→Prop} {Q:Exit→Act→World→Prop} {s x:Operand} {t:TypeId}
   (ho:o.op=.call { callee:=.builtin .append,args:=#[s,x],argTypes:=#[t,t] }) {e:TypeId} {bytes:Nat} (ht:P.underlying t=some (.slice e)) (hi:(P.info? e).map (fun i=>(i.zero,i.size,i.bytes))=some (some (.agg #[.bool false,.slice none 0 0,.slice none 0 0]),3,bytes))
   {I:World→Value→Rat→Prop} (hI:∀ w w',A9 w w'→∀ v q,I w v q→I w' v q) {B:Nat} {v:Value} {l:List Rat} {q:Rat} (hs:a.eval s=v) (hG:A5' I e B w v l) {k c n1 c1 n2 c2:Nat} {A1 A2:Option Addr} {s1:Bool} (hx:a.eval x=.slice (some ⟨k,0,none⟩) 1 c)
   (hrow:w.heap[k]?=some (.cells #[.bool s1,.slice A1 n1 c1,.slice A2 n2 c2] e (0,0))) (hq:I w (.agg #[.bool s1,.slice A1 n1 c1,.slice A2 n2 c2]) q) (hn:(l.length+1)*bytes≤140737488355328) (hm:l.length+1≤maxLen) (hB:B≤w.heap.size)
   (h:∀ v' w',A5' I e B w' v' (l++[q])→A9 w w'→w.grownBy w' v.ownBlock→(∀ g,v'.ownBlock=some g→v.ownBlock=some g∨g=w.heap.size)→K (a.put o.dst v') w'):o.wp P a w K Q:=by
 obtain ⟨i,hi1,hi2,hi3,hi4⟩:=info_parts hi
 obtain ⟨g0,cap0,xs,hv,hown,hni,hels⟩:=hG
 obtain ⟨r0,r1,r2⟩:=Ad' hrow
 refine Dg ho ht hi1 hi2 hi3 hi4 rfl (by decide) hs hown hx (news:=[.bool s1,.slice A1 n1 c1,.slice A2 n2 c2]) rfl ?_ ?_ (by decide) hm hn hB hni ?_ ?_ ?_
 · intro j u hj
   match j with
   | 0=>obtain rfl:=Option.some.inj hj;exact r0
   | 1=>obtain rfl:=Option.some.inj hj;exact r1
   | 2=>obtain rfl:=Option.some.inj hj;exact r2
   | j+3=>simp at hj
 · intro u hu
   simp only [List.mem_cons,List.not_mem_nil,or_false] at hu
   rcases hu with rfl | rfl | rfl <;> rfl
 · intro u hu k n
   simp only [List.mem_cons,List.not_mem_nil,or_false] at hu
   rcases hu with rfl | rfl | rfl <;> simp
 · intro u hu k n
   simp only [Value.cells,List.mem_cons,List.not_mem_nil,or_false] at hu
   rcases hu with rfl | rfl | rfl <;> simp
 · intro g cap w' h1 h2 h3 h4 h5
   have LV:=DT' hni h2
   refine h _ w' (A5'.push hels (fun v q hv=>hI _ _ LV v q hv) (hI _ _ LV _ _ hq) h1 h5) LV h2 ?_
   intro g' hg'
   obtain rfl:g=g':=Option.some.inj hg'
   exact h3
structure St (w u:World) (X:Nat) (ox oy:Obj) (av bv:Value) (la lb:List Rat) (vx vy:Value) (q:Rat):Prop where
  ga:A5' Ac' 35 w.heap.size u av la
  gb:A5' Ah 43 w.heap.size u bv lb
  dis:∀ g,av.ownBlock=some g→bv.ownBlock≠some g
  nx:Ac' u vx q
  ny:Ah u vy q
  rx:u.heap[X]?=some ox
  ry:u.heap[X+1]?=some oy
  ax:av.ownBlock≠some X∧av.ownBlock≠some (X+1)
  bx:bv.ownBlock≠some X∧bv.ownBlock≠some (X+1)
  hb:Below w.heap.size w u
theorem A5'.own {I:World→Value→Rat→Prop} {T:TypeId} {B:Nat} {w:World} {v:Value} {l:List Rat} (h:A5' I T B w v l):∀ g,v.ownBlock=some g→B≤g∧g<w.heap.size:=by
 obtain ⟨g,cap,xs,rfl,h1,-,-⟩:=h
 exact h1.lt
variable {w u u':World} {X:Nat} {ox oy:Obj} {av bv:Value} {la lb:List Rat} {vx vy:Value} {q:Rat}
theorem St.keep (h:St w u X ox oy av bv la lb vx vy q) (hb:Below u.heap.size u u'):St w u' X ox oy av bv la lb vx vy q :=
 ⟨h.ga.keep hb (fun _ _ k=>k.keep hb),h.gb.keep hb (fun _ _ k=>k.keep hb),h.dis,h.nx.keep hb,h.ny.keep hb,Ab' h.rx hb,Ab' h.ry hb,h.ax,h.bx,Ae' h.hb hb⟩
theorem FR:∀ w w':World,A9 w w'→∀ v q,Ac' w v q→Ac' w' v q:=fun _ _ h _ _ k=>h.num k
theorem IE:∀ w w':World,A9 w w'→∀ v q,Ah w v q→Ah w' v q:=fun _ _ h _ _ k=>h.rat k
theorem FR':(Tryz.prog.info? 35).map (fun i=>(i.zero,i.size,i.bytes))=some (some (.agg #[.bool false,.slice none 0 0,.slice none 0 0]),3,56):=by kernel_rfl
theorem IE':(Tryz.prog.info? 43).map (fun i=>(i.zero,i.size,i.bytes))=some (some (.agg #[.bool false,.slice none 0 0,.slice none 0 0]),3,56):=by kernel_rfl
def vals (ss:List ByteArray):List Rat:=ss.map fun s=>(IS' s).1
def DS (w:World) (ad:Option Addr) (ss:List ByteArray):Prop:=∀ (i:Nat) (s:ByteArray),ss[i]?=some s→∃ b o,ad=some ⟨b,o,none⟩∧w.cell? ⟨b,o+i,none⟩=some (.string s)
theorem DS.keep {ad:Option Addr} {ss:List ByteArray} (h:DS w ad ss) (hb:Below w.heap.size w u):DS u ad ss:=by
 intro i s hi
 obtain ⟨b,o,e,hc⟩:=h i s hi
 exact ⟨b,o,e,(hb.cell (bL w _ hc)).trans hc⟩
theorem Fi {I:World→Value→Rat→Prop} {T:TypeId} {B:Nat} {w:World} (hB:B≤w.heap.size):A5' I T B (w.alloc (.cells #[] T)) (.slice (some ⟨w.heap.size,0,none⟩) 0 0) [] :=
 ⟨w.heap.size,0,[],rfl,World.ownsRow_made w #[] 0 hB (by decide) rfl,fun g hg o u hu=>by
   obtain rfl:w.heap.size=g:=Option.some.inj hg
   rw [cR _ _ _ _ _ _ (hA_ w _)] at hu
   simp at hu,trivial⟩
theorem AG.at {w:World} {b o i:Nat} {l:List Rat} {q:Rat} (h:AG w b o l) (hi:l[i]?=some q):∃ A1 c1 B1 d1,w.cell? ⟨b,o+i*3,none⟩=some (.bool (decide (q.num<0)))∧w.cell? ⟨b,o+i*3+1,none⟩=some (.slice A1 (Vx.len q.num.natAbs) c1)∧w.cell? ⟨b,o+i*3+2,none⟩=some (.slice B1 (Vx.len (below q.den)) d1)∧Ac' w (.agg #[.bool (decide (q.num<0)),.slice A1 (Vx.len q.num.natAbs) c1,.slice B1 (Vx.len (below q.den)) d1]) q:=by
 obtain ⟨s,A1,n1,c1,A2,n2,c2,h0,h1,h2,h3⟩:=h i q hi
 obtain ⟨P1,r1,P2,r2,he,-,-⟩:=id h3.opened
 injection he with he
 injection he with he
 simp only [List.cons.injEq] at he
 obtain ⟨he0,he1,he2,-⟩:=he
 injection he0 with i0
 injection he1 with i1 i2 i3
 injection he2 with i4 i5 i6
 subst i0 i1 i2 i3 i4 i5 i6
 exact ⟨_,_,_,_,h0,h1,h2,h3⟩
def Mn (w:World) (q:Rat) (wr:World):Prop :=
  wr.heap[w.heap.size]?=some (.cells #[.bool false,.slice none 0 0,.slice none 0 0] 35 (0,0))∧(∃ A1 c1 B1 d1,wr.heap[w.heap.size+1]?=some (.cells #[.bool (decide (q.num<0)),.slice A1 (Vx.len q.num.natAbs) c1,.slice B1 (Vx.len (below q.den)) d1] 35 (0,0))∧Ac' w (.agg #[.bool (decide (q.num<0)),.slice A1 (Vx.len q.num.natAbs) c1,.slice B1 (Vx.len (below q.den)) d1]) q)∧Below w.heap.size w wr
theorem Mn.call {w wr w':World} {q:Rat} (h:Mn w q wr) (hb:Below wr.heap.size wr w'):Mn w q w':=by
 obtain ⟨h1,⟨A1,c1,B1,d1,h2,h3⟩,h4⟩:=h
 exact ⟨Ab' h1 hb,⟨A1,c1,B1,d1,Ab' h2 hb,h3⟩,Ae' h4 hb⟩
theorem Mn.put {w wr w':World} {m q:Rat} (h:Mn w m wr) {A1 B1:Option Addr} {c1 d1:Nat} (hq:Ac' w (.agg #[.bool (decide (q.num<0)),.slice A1 (Vx.len q.num.natAbs) c1,.slice B1 (Vx.len (below q.den)) d1]) q)
   (hw:w'=(((wr.setCell ⟨w.heap.size+1,0,none⟩ (.bool (decide (q.num<0)))).setCell ⟨w.heap.size+1,1,none⟩ (.slice A1 (Vx.len q.num.natAbs) c1)).setCell ⟨w.heap.size+1,2,none⟩ (.slice B1 (Vx.len (below q.den)) d1))):Mn w q w':=by
 obtain ⟨h1,⟨A0,c0,B0,d0,h2,h3⟩,h4⟩:=h
 obtain ⟨E,OT,LV,BL⟩:=AE h2 hw
 exact ⟨OT _ _ (by omega) h1,⟨A1,c1,B1,d1,E,hq⟩,BL _ _ (by omega) h4⟩
theorem BE' (x:Rat) (l:List Rat) {N:Nat} (h:∀ y∈x::l,Aa' y≤N) (k:Nat):Aa' (leastOf x (l.take k))≤N∧Aa' (greatestOf x (l.take k))≤N :=
 ⟨BU' (h x (List.mem_cons_self ..)) (fun y hy=>h y (List.mem_cons_of_mem _ hy)) k,Bu (h x (List.mem_cons_self ..)) (fun y hy=>h y (List.mem_cons_of_mem _ hy)) k⟩
theorem FC {w:World} {b o c n:Nat} {x0 r:Rat} {l:List Rat} (el:leastOf x0 l=r) (hl:AG w b o (x0::l)) (hn:n=l.length+1) (hn2:n≤1000) (hs:∀ y∈x0::l,Aa' y≤16777216) :
   Calls Tryz.prog 122 #[.slice (some ⟨b,o,none⟩) n c,.func (.func 17) #[] #[]] w (Az' w r):=by
 obtain ⟨A0,c0,B0,d0,e0,e1,e2,hx⟩:=hl.at (i:=0) rfl
 simp only [Nat.zero_mul,Nat.add_zero] at e0 e1 e2
 have hl0:=bL w _ e0
 obtain ⟨w1,hw1⟩:=eX (w.alloc (.cells #[.bool false,.slice none 0 0,.slice none 0 0] 35))
 have b1:=hid (AO' hw1)
 have g1:=hid (AR' hw1)
 have z0:=(b1.out.cell (p:=⟨b,o,none⟩) hl0).trans e0
 have z1:=(b1.out.cell (p:=⟨b,o+1,none⟩) hl0).trans e1
 have z2:=(b1.out.cell (p:=⟨b,o+2,none⟩) hl0).trans e2
 have i0:decide (((n:Nat):Int)<1)=false:=dF_ (by omega)
 have i1:¬ ((n:Nat):Int)<1:=by omega
 have i2:0<n:=by omega
 have hw1s:w1.heap.size=w.heap.size+1:=by rw [hw1,World.size_alloc]
 replace hl:=hid hl
 replace hs:=hid hs
 replace hn:=hid hn
 replace hx:=hid hx
 replace el:=hid el
 clear e0 e1 e2
 go_enter Tryz.func122,Tryz.ntmps122
 go_upto_region 1 with fail
 rw [←hw1]
 clear hw1
 go_upto_region 4 with fail
 obtain ⟨w2,hw2⟩:=eX (w1.alloc (.cells #[.bool (decide (x0.num<0)),.slice A0 (Vx.len x0.num.natAbs) c0,.slice B0 (Vx.len (below x0.den)) d0] 35))
 have HM0:Hid (Mn w (leastOf x0 (l.take 0)) w2):=by
   refine hid ⟨Ab' g1.out (AO' hw2),⟨A0,c0,B0,d0,?_,hx.out⟩,Ae' b1.out (AO' hw2)⟩
   have:=AR' hw2
   rw [hw1s] at this
   exact this
 rw [←hw2]
 try rw [hw1s]
 clear hw2 z0 z1 z2 hx b1 g1
 go_wp2_with fail
 go_loopw [6] (fun iv wr=>∃ j:Nat,1≤j∧j≤n∧iv=.int .i64 ((j:Nat):Int)∧Hid (Mn w (leastOf x0 (l.take (j - 1))) wr)) (fun iv _=>n - (intOf iv).toNat)
 case atStart=>exact ⟨1,by omega,by omega,rfl,HM0⟩
 case round =>
   obtain ⟨j,hj1,hj2,rfl,hrel⟩:=hrel
   clear HM0
   rcases Nat.lt_or_ge j n with hjn | hjn
   · have hin:decide (j<n)=true:=dT_ hjn
     obtain ⟨k,hkj⟩:∃ k:Nat,j=k+1:=⟨j - 1,by omega⟩
     obtain ⟨q,hq⟩:∃ q,l[k]?=some q:=⟨_,List.getElem?_eq_getElem (by have:=hn.out;omega)⟩
     obtain ⟨A1,c1,B1,d1,e0,e1,e2,hqn⟩:=hl.out.at (i:=j) (q:=q) (by rw [hkj];simpa using hq)
     have hb:=hrel.out.2.2
     have hl1:=bL w _ e0
     have z0:=(hb.cell (p:=⟨b,o+j*3,none⟩) hl1).trans e0
     have z1:=(hb.cell (p:=⟨b,o+j*3+1,none⟩) hl1).trans e1
     have z2:=(hb.cell (p:=⟨b,o+j*3+2,none⟩) hl1).trans e2
     have hst:leastOf x0 (l.take (k+1))=_:=BK (x:=x0) hq
     have ejk:j - 1=k:=by omega
     rw [ejk] at hrel
     have ejk2:Hid (j+1 - 1=k+1):=hid (by omega)
     clear ejk
     have hms:=(BE' x0 l hs.out k).1
     obtain ⟨m,em⟩:=eY (leastOf x0 (l.take k))
     rw [em] at hrel hst hms
     obtain ⟨hr0,⟨A2,c2,B2,d2,hr1,hmn⟩,-⟩:=id hrel.out
     obtain ⟨y0,y1,y2⟩:=Ad' hr1
     have hlr:=Al' hr1
     have qs:=hid (hs.out q (List.mem_cons_of_mem _ (List.mem_of_getElem? hq)))
     have ms:=hid hms
     obtain ⟨cc,hcc⟩:=eY (cmpQ q m:Int)
     have HC:=hid (Bf' (w:=wr.drew) hcc (hqn.keep (Ae' hb (by exact ⟨rfl,rfl,rfl,nL _,fun _ _=>rfl⟩))) (hmn.keep (Ae' hb (by exact ⟨rfl,rfl,rfl,nL _,fun _ _=>rfl⟩))) (nT qs.out (by omega)) (nT ms.out (by omega)))
     replace hcc:Hid (cc=cmpQ q m):=hid hcc.symm
     replace hqn:=hid hqn
     have hwk:IntKind.i64.wrap (((j:Nat):Int)+1)=((j:Nat):Int)+1:=by
       unfold IntKind.wrap
       simp [IntKind.bits,IntKind.signed]
       omega
     clear e0 e1 e2 hq hms hb hr0 hr1 hmn em hkj
     go_upto_region 7 with fail
     go_wp2_with fail
     refine wp_region_held_drew (S:=(fun w'=>(w'.cell? ⟨b,o+j*3,none⟩=some (.bool (decide (q.num<0)))∧w'.cell? ⟨b,o+j*3+1,none⟩=some (.slice A1 (Vx.len q.num.natAbs) c1)∧w'.cell? ⟨b,o+j*3+2,none⟩=some (.slice B1 (Vx.len (below q.den)) d1)∧w'.cell? ⟨w.heap.size+1,0,none⟩=some (.bool (decide (m.num<0)))∧w'.cell? ⟨w.heap.size+1,1,none⟩=some (.slice A2 (Vx.len m.num.natAbs) c2)∧w'.cell? ⟨w.heap.size+1,2,none⟩=some (.slice B2 (Vx.len (below m.den)) d2)))) (by kernel_rfl) ?_ (fun hHeld=>?_)
     · (try dsimp only)
       exact ⟨z0,z1,z2,y0,y1,y2⟩
     refine tk (i:=0) (h:=?_)
     try simp only [Act.put,lt,ly,lu]
     refine tk (i:=1) (h:=?_)
     try simp only [Act.put,lt,ly,lu]
     refine tk (i:=2) (h:=?_)
     try simp only [Act.put,lt,ly,lu]
     refine tk (i:=3) (h:=?_)
     try simp only [Act.put,lt,ly,lu]
     refine tk (i:=4) (h:=?_)
     try simp only [Act.put,lt,ly,lu]
     refine tk (i:=5) (h:=?_)
     try simp only [Act.put,lt,ly,lu]
     refine rdz (i:=6) (h:=fun K hK=>?_);go_simp;go_at_call 17
     refine (HC.out).mono ?_
     rintro e w3 ⟨rfl,b3⟩
     have bd:Below wr.heap.size wr wr.drew:=⟨rfl,rfl,rfl,nL _,fun _ _=>rfl⟩
     have b3':Below wr.heap.size wr w3:=bS bd b3
     have hM3:=hid (hrel.out.call b3')
     clear hHeld HC
     have p0:=(b3'.cell (p:=⟨b,o+j*3,none⟩) (bL _ _ z0)).trans z0
     have p1:=(b3'.cell (p:=⟨b,o+j*3+1,none⟩) (bL _ _ z1)).trans z1
     have p2:=(b3'.cell (p:=⟨b,o+j*3+2,none⟩) (bL _ _ z2)).trans z2
     have q0:=(b3'.cell (p:=⟨w.heap.size+1,0,none⟩) hlr).trans y0
     have q1:=(b3'.cell (p:=⟨w.heap.size+1,1,none⟩) hlr).trans y1
     have q2:=(b3'.cell (p:=⟨w.heap.size+1,2,none⟩) hlr).trans y2
     refine hK.out _ _ ?_ (fun hHeld=>?_)
     · (try dsimp only)
       exact ⟨p0,p1,p2,q0,q1,q2⟩
     clear hK K z0 z1 z2 y0 y1 y2 b3 b3' bd
     try simp only [Act.put,lt,ly,lu]
     refine tk (i:=7) (h:=?_)
     try simp only [Act.put,lt,ly,lu]
     refine wpAnyH_done (by kernel_rfl) ?_ _
     clear hHeld
     rcases Decidable.em (q<m) with hqm | hqm
     · have hd:decide (cc<0)=true:=dT_ (by rw [hcc.out,cmpQ_lt0];exact hqm)
       have hd2:cc<0:=of_decide_eq_true hd
       rw [if_pos hqm] at hst
       replace hst:=hid hst
       replace hqm:=hid hqm
       obtain ⟨hr0,⟨A3,c3,B3,d3,hr1,-⟩,-⟩:=id hM3.out
       have F0:=fR w3 (w.heap.size+1) 0 _ _ hr1
       have F1:=fR w3 (w.heap.size+1) 1 _ _ hr1
       have F2:=fR w3 (w.heap.size+1) 2 _ _ hr1
       obtain ⟨w4,hw4⟩:=eX ((((w3.setCell ⟨w.heap.size+1,0,none⟩ (.bool (decide (q.num<0)))).setCell ⟨w.heap.size+1,1,none⟩ (.slice A1 (Vx.len q.num.natAbs) c1)).setCell ⟨w.heap.size+1,2,none⟩ (.slice B1 (Vx.len (below q.den)) d1)))
       have hM4:=hid (hM3.out.put hqn.out hw4)
       rw [←hst.out] at hM4
       clear hr0 hr1
       go_wp2_with fail
       rw [←hw4]
       clear hw4
       go_roundw
       case rel=>exact ⟨j+1,by omega,by omega,by go_num,by rw [ejk2.out];exact hM4⟩
       case measure=>simp [intOf];omega
     · have hd:decide (cc<0)=false:=dF_ (by rw [hcc.out,cmpQ_lt0];exact hqm)
       have hd2:¬ cc<0:=of_decide_eq_false hd
       rw [if_neg hqm] at hst
       replace hst:=hid hst
       replace hqm:=hid hqm
       rw [←hst.out] at hM3
       go_wp2_with fail
       go_roundw
       case rel=>exact ⟨j+1,by omega,by omega,by go_num,by rw [ejk2.out];exact hM3⟩
       case measure=>simp [intOf];omega
   · obtain rfl:j=n:=Nat.le_antisymm hj2 hjn
     have hin:decide (j<j)=false:=dF_ (Nat.lt_irrefl _)
     have ej:l.take (j - 1)=l:=List.take_of_length_le (by have:=hn.out;omega)
     rw [ej,el.out] at hrel
     obtain ⟨hr0,⟨A2,c2,B2,d2,hr1,hmn⟩,hb⟩:=id hrel.out
     obtain ⟨y0,y1,y2⟩:=Ad' hr1
     obtain ⟨q0,q1,q2⟩:=Ad' hr0
     have F0:=fR wr w.heap.size 0 _ _ hr0
     have F1:=fR wr w.heap.size 1 _ _ hr0
     have F2:=fR wr w.heap.size 2 _ _ hr0
     obtain ⟨ue,hw⟩:=eX ((((wr.setCell ⟨w.heap.size,0,none⟩ (.bool (decide (r.num<0)))).setCell ⟨w.heap.size,1,none⟩ (.slice A2 (Vx.len r.num.natAbs) c2)).setCell ⟨w.heap.size,2,none⟩ (.slice B2 (Vx.len (below r.den)) d2)))
     obtain ⟨E,-,LV,BL⟩:=AE hr0 hw
     have FE:=hid (LV.num (hmn.keep hb))
     have FB:=hid (BL _ _ (nL _) hb)
     replace E:=hid E
     replace hw:=hid hw
     clear hr0 hr1 hmn hb LV BL hrel
     go_wp2_with fail
     rw [←hw.out]
     obtain ⟨r0,r1,r2⟩:=Ad' E.out
     refine bP (v:=.agg #[.bool (decide (r.num<0)),.slice A2 (Vx.len r.num.natAbs) c2,.slice B2 (Vx.len (below r.den)) d2]) ?_ rfl ⟨_,rfl,FE.out,FB.out⟩
     simp [results,Tryz.results122,go_sem,r0,r1,r2]
theorem FC' {w:World} {b o c n:Nat} {x0 r:Rat} {l:List Rat} (el:greatestOf x0 l=r) (hl:AG w b o (x0::l)) (hn:n=l.length+1) (hn2:n≤1000) (hs:∀ y∈x0::l,Aa' y≤16777216) :
   Calls Tryz.prog 123 #[.slice (some ⟨b,o,none⟩) n c,.func (.func 17) #[] #[]] w (Az' w r):=by
 obtain ⟨A0,c0,B0,d0,e0,e1,e2,hx⟩:=hl.at (i:=0) rfl
 simp only [Nat.zero_mul,Nat.add_zero] at e0 e1 e2
 have hl0:=bL w _ e0
 obtain ⟨w1,hw1⟩:=eX (w.alloc (.cells #[.bool false,.slice none 0 0,.slice none 0 0] 35))
 have b1:=hid (AO' hw1)
 have g1:=hid (AR' hw1)
 have z0:=(b1.out.cell (p:=⟨b,o,none⟩) hl0).trans e0
 have z1:=(b1.out.cell (p:=⟨b,o+1,none⟩) hl0).trans e1
 have z2:=(b1.out.cell (p:=⟨b,o+2,none⟩) hl0).trans e2
 have i0:decide (((n:Nat):Int)<1)=false:=dF_ (by omega)
 have i1:¬ ((n:Nat):Int)<1:=by omega
 have i2:0<n:=by omega
 have hw1s:w1.heap.size=w.heap.size+1:=by rw [hw1,World.size_alloc]
 replace hl:=hid hl
 replace hs:=hid hs
 replace hn:=hid hn
 replace hx:=hid hx
 replace el:=hid el
 clear e0 e1 e2
 go_enter Tryz.func123,Tryz.ntmps123
 go_upto_region 1 with fail
 rw [←hw1]
 clear hw1
 go_upto_region 4 with fail
 obtain ⟨w2,hw2⟩:=eX (w1.alloc (.cells #[.bool (decide (x0.num<0)),.slice A0 (Vx.len x0.num.natAbs) c0,.slice B0 (Vx.len (below x0.den)) d0] 35))
 have HM0:Hid (Mn w (greatestOf x0 (l.take 0)) w2):=by
   refine hid ⟨Ab' g1.out (AO' hw2),⟨A0,c0,B0,d0,?_,hx.out⟩,Ae' b1.out (AO' hw2)⟩
   have:=AR' hw2
   rw [hw1s] at this
   exact this
 rw [←hw2]
 try rw [hw1s]
 clear hw2 z0 z1 z2 hx b1 g1
 go_wp2_with fail
 go_loopw [6] (fun iv wr=>∃ j:Nat,1≤j∧j≤n∧iv=.int .i64 ((j:Nat):Int)∧Hid (Mn w (greatestOf x0 (l.take (j - 1))) wr)) (fun iv _=>n - (intOf iv).toNat)
 case atStart=>exact ⟨1,by omega,by omega,rfl,HM0⟩
 case round =>
   obtain ⟨j,hj1,hj2,rfl,hrel⟩:=hrel
   clear HM0
   rcases Nat.lt_or_ge j n with hjn | hjn
   · have hin:decide (j<n)=true:=dT_ hjn
     obtain ⟨k,hkj⟩:∃ k:Nat,j=k+1:=⟨j - 1,by omega⟩
     obtain ⟨q,hq⟩:∃ q,l[k]?=some q:=⟨_,List.getElem?_eq_getElem (by have:=hn.out;omega)⟩
     obtain ⟨A1,c1,B1,d1,e0,e1,e2,hqn⟩:=hl.out.at (i:=j) (q:=q) (by rw [hkj];simpa using hq)
     have hb:=hrel.out.2.2
     have hl1:=bL w _ e0
     have z0:=(hb.cell (p:=⟨b,o+j*3,none⟩) hl1).trans e0
     have z1:=(hb.cell (p:=⟨b,o+j*3+1,none⟩) hl1).trans e1
     have z2:=(hb.cell (p:=⟨b,o+j*3+2,none⟩) hl1).trans e2
     have hst:greatestOf x0 (l.take (k+1))=_:=Bn (x:=x0) hq
     have ejk:j - 1=k:=by omega
     rw [ejk] at hrel
     have ejk2:Hid (j+1 - 1=k+1):=hid (by omega)
     clear ejk
     have hms:=(BE' x0 l hs.out k).2
     obtain ⟨m,em⟩:=eY (greatestOf x0 (l.take k))
     rw [em] at hrel hst hms
     obtain ⟨hr0,⟨A2,c2,B2,d2,hr1,hmn⟩,-⟩:=id hrel.out
     obtain ⟨y0,y1,y2⟩:=Ad' hr1
     have hlr:=Al' hr1
     have qs:=hid (hs.out q (List.mem_cons_of_mem _ (List.mem_of_getElem? hq)))
     have ms:=hid hms
     obtain ⟨cc,hcc⟩:=eY (cmpQ q m:Int)
     have HC:=hid (Bf' (w:=wr.drew) hcc (hqn.keep (Ae' hb (by exact ⟨rfl,rfl,rfl,nL _,fun _ _=>rfl⟩))) (hmn.keep (Ae' hb (by exact ⟨rfl,rfl,rfl,nL _,fun _ _=>rfl⟩))) (nT qs.out (by omega)) (nT ms.out (by omega)))
     replace hcc:Hid (cc=cmpQ q m):=hid hcc.symm
     replace hqn:=hid hqn
     have hwk:IntKind.i64.wrap (((j:Nat):Int)+1)=((j:Nat):Int)+1:=by
       unfold IntKind.wrap
       simp [IntKind.bits,IntKind.signed]
       omega
     clear e0 e1 e2 hq hms hb hr0 hr1 hmn em hkj
     go_upto_region 7 with fail
     go_wp2_with fail
     refine wp_region_held_drew (S:=(fun w'=>(w'.cell? ⟨b,o+j*3,none⟩=some (.bool (decide (q.num<0)))∧w'.cell? ⟨b,o+j*3+1,none⟩=some (.slice A1 (Vx.len q.num.natAbs) c1)∧w'.cell? ⟨b,o+j*3+2,none⟩=some (.slice B1 (Vx.len (below q.den)) d1)∧w'.cell? ⟨w.heap.size+1,0,none⟩=some (.bool (decide (m.num<0)))∧w'.cell? ⟨w.heap.size+1,1,none⟩=some (.slice A2 (Vx.len m.num.natAbs) c2)∧w'.cell? ⟨w.heap.size+1,2,none⟩=some (.slice B2 (Vx.len (below m.den)) d2)))) (by kernel_rfl) ?_ (fun hHeld=>?_)
     · (try dsimp only)
       exact ⟨z0,z1,z2,y0,y1,y2⟩
     refine tk (i:=0) (h:=?_)
     try simp only [Act.put,lt,ly,lu]
     refine tk (i:=1) (h:=?_)
     try simp only [Act.put,lt,ly,lu]
     refine tk (i:=2) (h:=?_)
     try simp only [Act.put,lt,ly,lu]
     refine tk (i:=3) (h:=?_)
     try simp only [Act.put,lt,ly,lu]
     refine tk (i:=4) (h:=?_)
     try simp only [Act.put,lt,ly,lu]
     refine tk (i:=5) (h:=?_)
     try simp only [Act.put,lt,ly,lu]
     refine rdz (i:=6) (h:=fun K hK=>?_);go_simp;go_at_call 17
     refine (HC.out).mono ?_
     rintro e w3 ⟨rfl,b3⟩
     have bd:Below wr.heap.size wr wr.drew:=⟨rfl,rfl,rfl,nL _,fun _ _=>rfl⟩
     have b3':Below wr.heap.size wr w3:=bS bd b3
     have hM3:=hid (hrel.out.call b3')
     clear hHeld HC
     have p0:=(b3'.cell (p:=⟨b,o+j*3,none⟩) (bL _ _ z0)).trans z0
     have p1:=(b3'.cell (p:=⟨b,o+j*3+1,none⟩) (bL _ _ z1)).trans z1
     have p2:=(b3'.cell (p:=⟨b,o+j*3+2,none⟩) (bL _ _ z2)).trans z2
     have q0:=(b3'.cell (p:=⟨w.heap.size+1,0,none⟩) hlr).trans y0
     have q1:=(b3'.cell (p:=⟨w.heap.size+1,1,none⟩) hlr).trans y1
     have q2:=(b3'.cell (p:=⟨w.heap.size+1,2,none⟩) hlr).trans y2
     refine hK.out _ _ ?_ (fun hHeld=>?_)
     · (try dsimp only)
       exact ⟨p0,p1,p2,q0,q1,q2⟩
     clear hK K z0 z1 z2 y0 y1 y2 b3 b3' bd
     try simp only [Act.put,lt,ly,lu]
     refine tk (i:=7) (h:=?_)
     try simp only [Act.put,lt,ly,lu]
     refine wpAnyH_done (by kernel_rfl) ?_ _
     clear hHeld
     rcases Decidable.em (m<q) with hqm | hqm
     · have hd:decide (cc>0)=true:=dT_ (by rw [hcc.out,Bb];exact hqm)
       have hd2:cc>0:=of_decide_eq_true hd
       rw [if_pos hqm] at hst
       replace hst:=hid hst
       replace hqm:=hid hqm
       obtain ⟨hr0,⟨A3,c3,B3,d3,hr1,-⟩,-⟩:=id hM3.out
       have F0:=fR w3 (w.heap.size+1) 0 _ _ hr1
       have F1:=fR w3 (w.heap.size+1) 1 _ _ hr1
       have F2:=fR w3 (w.heap.size+1) 2 _ _ hr1
       obtain ⟨w4,hw4⟩:=eX ((((w3.setCell ⟨w.heap.size+1,0,none⟩ (.bool (decide (q.num<0)))).setCell ⟨w.heap.size+1,1,none⟩ (.slice A1 (Vx.len q.num.natAbs) c1)).setCell ⟨w.heap.size+1,2,none⟩ (.slice B1 (Vx.len (below q.den)) d1)))
       have hM4:=hid (hM3.out.put hqn.out hw4)
       rw [←hst.out] at hM4
       clear hr0 hr1
       go_wp2_with fail
       rw [←hw4]
       clear hw4
       go_roundw
       case rel=>exact ⟨j+1,by omega,by omega,by go_num,by rw [ejk2.out];exact hM4⟩
       case measure=>simp [intOf];omega
     · have hd:decide (cc>0)=false:=dF_ (by rw [hcc.out,Bb];exact hqm)
       have hd2:¬ cc>0:=of_decide_eq_false hd
       rw [if_neg hqm] at hst
       replace hst:=hid hst
       replace hqm:=hid hqm
       rw [←hst.out] at hM3
       go_wp2_with fail
       go_roundw
       case rel=>exact ⟨j+1,by omega,by omega,by go_num,by rw [ejk2.out];exact hM3⟩
       case measure=>simp [intOf];omega
   · obtain rfl:j=n:=Nat.le_antisymm hj2 hjn
     have hin:decide (j<j)=false:=dF_ (Nat.lt_irrefl _)
     have ej:l.take (j - 1)=l:=List.take_of_length_le (by have:=hn.out;omega)
     rw [ej,el.out] at hrel
     obtain ⟨hr0,⟨A2,c2,B2,d2,hr1,hmn⟩,hb⟩:=id hrel.out
     obtain ⟨y0,y1,y2⟩:=Ad' hr1
     obtain ⟨q0,q1,q2⟩:=Ad' hr0
     have F0:=fR wr w.heap.size 0 _ _ hr0
     have F1:=fR wr w.heap.size 1 _ _ hr0
     have F2:=fR wr w.heap.size 2 _ _ hr0
     obtain ⟨ue,hw⟩:=eX ((((wr.setCell ⟨w.heap.size,0,none⟩ (.bool (decide (r.num<0)))).setCell ⟨w.heap.size,1,none⟩ (.slice A2 (Vx.len r.num.natAbs) c2)).setCell ⟨w.heap.size,2,none⟩ (.slice B2 (Vx.len (below r.den)) d2)))
     obtain ⟨E,-,LV,BL⟩:=AE hr0 hw
     have FE:=hid (LV.num (hmn.keep hb))
     have FB:=hid (BL _ _ (nL _) hb)
     replace E:=hid E
     replace hw:=hid hw
     clear hr0 hr1 hmn hb LV BL hrel
     go_wp2_with fail
     rw [←hw.out]
     obtain ⟨r0,r1,r2⟩:=Ad' E.out
     refine bP (v:=.agg #[.bool (decide (r.num<0)),.slice A2 (Vx.len r.num.natAbs) c2,.slice B2 (Vx.len (below r.den)) d2]) ?_ rfl ⟨_,rfl,FE.out,FB.out⟩
     simp [results,Tryz.results123,go_sem,r0,r1,r2]
end Go.Proofs.YtflopjfnppolgaaGreatDoor.Rf
namespace Go.Proofs.YtflopjfnppolgaaGreatDoor
open Lib (hid)
open Go.RowKit
open Vx
theorem C1' {x y:Rat} (hx:Aa' x≤1073741824) (hy:Aa' y≤1073741824):Aa' (x / y)≤34359738368:=nT (AZ x y) (by omega)
theorem Fi' {w:World} {v u:Value} {a b c d:Rat} (hv:Ao' w v a b) (hu:Ao' w u c d) (hs1:Aa' a≤1073741824) (hs2:Aa' b≤1073741824) (hs3:Aa' c≤1073741824) (hs4:Aa' d≤1073741824) :
   Calls Tryz.prog 81 #[.func (.func 82) #[] #[],v,u] w (Bt' w (leastOf ((a / c)) [(a / d),(b / c),(b / d)]) (greatestOf ((a / c)) [(a / d),(b / c),(b / d)])):=by
 obtain ⟨A1,c1,A2,c2,A3,c3,A4,c4,rfl,ha,hb⟩:=hv.opened
 obtain ⟨A5,c5,A6,c6,A7,c7,A8,c8,rfl,hc,hd⟩:=hu.opened
 obtain ⟨wB,hwB⟩:=eX (((w.alloc (.cells #[.bool (decide (a.num<0)),.slice A1 (len a.num.natAbs) c1,.slice A2 (len (below a.den)) c2,.bool (decide (b.num<0)),.slice A3 (len b.num.natAbs) c3,.slice A4 (len (below b.den)) c4] 37)).alloc (.cells #[.bool (decide (c.num<0)),.slice A5 (len c.num.natAbs) c5,.slice A6 (len (below c.den)) c6,.bool (decide (d.num<0)),.slice A7 (len d.num.natAbs) c7,.slice A8 (len (below d.den)) c8] 37)).alloc (.cells #[.bool false,.slice none 0 0,.slice none 0 0,.bool false,.slice none 0 0,.slice none 0 0] 37))
 obtain ⟨b0,g0,g1,g2⟩:=AC hwB
 obtain ⟨k0,k1,k2,k3,k4,k5⟩:=Aj g0
 obtain ⟨k6,k7,k8,k9,k10,k11⟩:=Aj g1
 have HK0:=hid (Aq'.start (T:=37) rfl CO g2)
 have HB0:=hid b0
 have hlt1:w.heap.size<w.heap.size+2:=by omega
 have hlt2:w.heap.size+1<w.heap.size+2:=by omega
 clear g0 g1 g2 b0
 obtain ⟨qa,eqa⟩:=eX (a / c:Rat)
 have HSa:Hid (Aa' qa≤34359738368):=by show _≤_;rw [eqa];exact C1' hs1 hs3
 have Hqa:=fun (w':World) (hk:Ax' wB (w.heap.size+2) wB w')=>hid (Cg' (hk.stay.num (ha.keep HB0.out)) (hk.stay.num (hc.keep HB0.out)) (nT hs1 (by omega)) (nT hs3 (by omega)))
 obtain ⟨qb,eqb⟩:=eX (a / d:Rat)
 have HSb:Hid (Aa' qb≤34359738368):=by show _≤_;rw [eqb];exact C1' hs1 hs4
 have Hqb:=fun (w':World) (hk:Ax' wB (w.heap.size+2) wB w')=>hid (Cg' (hk.stay.num (ha.keep HB0.out)) (hk.stay.num (hd.keep HB0.out)) (nT hs1 (by omega)) (nT hs4 (by omega)))
 obtain ⟨qc,eqc⟩:=eX (b / c:Rat)
 have HSc:Hid (Aa' qc≤34359738368):=by show _≤_;rw [eqc];exact C1' hs2 hs3
 have Hqc:=fun (w':World) (hk:Ax' wB (w.heap.size+2) wB w')=>hid (Cg' (hk.stay.num (hb.keep HB0.out)) (hk.stay.num (hc.keep HB0.out)) (nT hs2 (by omega)) (nT hs3 (by omega)))
 obtain ⟨qd,eqd⟩:=eX (b / d:Rat)
 have HSd:Hid (Aa' qd≤34359738368):=by show _≤_;rw [eqd];exact C1' hs2 hs4
 have Hqd:=fun (w':World) (hk:Ax' wB (w.heap.size+2) wB w')=>hid (Cg' (hk.stay.num (hb.keep HB0.out)) (hk.stay.num (hd.keep HB0.out)) (nT hs2 (by omega)) (nT hs4 (by omega)))
 rw [←eqa] at Hqa ⊢
 rw [←eqb] at Hqb ⊢
 rw [←eqc] at Hqc ⊢
 rw [←eqd] at Hqd ⊢
 obtain ⟨xl,hxl⟩:=eX (leastOf qa [qb,qc,qd]:Rat)
 obtain ⟨xg,hxg⟩:=eX (greatestOf qa [qb,qc,qd]:Rat)
 rw [←hxl,←hxg]
 replace hxl:=hid hxl
 replace hxg:=hid hxg
 have H0:=HK0.out.begin6
 have H0':=H0
 unfold Ax' at H0'
 clear eqa eqb eqc eqd hv hu ha hb hc hd hs1 hs2 hs3 hs4
 go_enter Tryz.func81,Tryz.ntmps81
 go_upto_region 1 with fail
 rw [←hwB]
 clear hwB
 go_wp2_with fail
 go_region_held3 (fun w'=>(∀ b o,b<w.heap.size+2→w'.cell? ⟨b,o,none⟩=wB.cell? ⟨b,o,none⟩)∧w'.cell? ⟨w.heap.size+2,0,none⟩=some (cur w' ⟨w.heap.size+2,0,none⟩)∧w'.cell? ⟨w.heap.size+2,1,none⟩=some (cur w' ⟨w.heap.size+2,1,none⟩)∧w'.cell? ⟨w.heap.size+2,2,none⟩=some (cur w' ⟨w.heap.size+2,2,none⟩)∧w'.cell? ⟨w.heap.size+2,3,none⟩=some (cur w' ⟨w.heap.size+2,3,none⟩)∧w'.cell? ⟨w.heap.size+2,4,none⟩=some (cur w' ⟨w.heap.size+2,4,none⟩)∧w'.cell? ⟨w.heap.size+2,5,none⟩=some (cur w' ⟨w.heap.size+2,5,none⟩)∧w'.frozen? ⟨w.heap.size+2,0,none⟩=false∧w'.frozen? ⟨w.heap.size+2,1,none⟩=false∧w'.frozen? ⟨w.heap.size+2,2,none⟩=false∧w'.frozen? ⟨w.heap.size+2,3,none⟩=false∧w'.frozen? ⟨w.heap.size+2,4,none⟩=false∧w'.frozen? ⟨w.heap.size+2,5,none⟩=false∧Aq' 6 37 wB (w.heap.size+2) w'∧An' wB w')
   (first | with_reducible exact H0' | with_reducible exact hk1' | with_reducible exact hk2' | with_reducible exact hk3' | with_reducible exact hk4' | with_reducible exact hk5' | exact hk5.store | (have hkb:=hk4.call ((Below.refl w4.heap.size w4).alloc (nL _) (.cells #[.bool (decide (qb.num<0)),.slice C3 (len qb.num.natAbs) j3,.slice C4 (len (below qb.den)) j4,.bool (decide (qc.num<0)),.slice C5 (len qc.num.natAbs) j5,.slice C6 (len (below qc.den)) j6,.bool (decide (qd.num<0)),.slice C7 (len qd.num.natAbs) j7,.slice C8 (len (below qd.den)) j8] 35));unfold Ax' at hkb;exact hkb))
   (first | (go_at_call 110;have hc:=Gg' (((hv1.keep hbl2).keep hbl3).keep hbl4) HSa.out ((hv2.keep hbl3).keep hbl4) HSb.out (hv3.keep hbl4) HSc.out hv4 HSd.out;rw [←hxl.out,←hxg.out] at hc;refine hc.mono ?_;clear hc;rintro e w5 ⟨v5,rfl,hv5,hbl5⟩;obtain ⟨E1,i1,E2,i2,E3,i3,E4,i4,rfl,hp1,hp2⟩:=hv5.opened;have hk5:=(hk4.call ((Below.refl w4.heap.size w4).alloc (nL _) (.cells #[.bool (decide (qb.num<0)),.slice C3 (len qb.num.natAbs) j3,.slice C4 (len (below qb.den)) j4,.bool (decide (qc.num<0)),.slice C5 (len qc.num.natAbs) j5,.slice C6 (len (below qc.den)) j6,.bool (decide (qd.num<0)),.slice C7 (len qd.num.natAbs) j7,.slice C8 (len (below qd.den)) j8] 35))).call hbl5;have hk5':=hk5;unfold Ax' at hk5') | (go_at_call 82;refine ((Hqd _ hk3).out).mono ?_;rintro e w4 ⟨v4,rfl,hv4,hbl4⟩;obtain ⟨C7,j7,C8,j8,rfl,-,-⟩:=id hv4.opened;have hk4:=hk3.call hbl4;have hk4':=hk4;unfold Ax' at hk4') | (go_at_call 82;refine ((Hqc _ hk2).out).mono ?_;rintro e w3 ⟨v3,rfl,hv3,hbl3⟩;obtain ⟨C5,j5,C6,j6,rfl,-,-⟩:=id hv3.opened;have hk3:=hk2.call hbl3;have hk3':=hk3;unfold Ax' at hk3') | (go_at_call 82;refine ((Hqb _ hk1).out).mono ?_;rintro e w2 ⟨v2,rfl,hv2,hbl2⟩;obtain ⟨C3,j3,C4,j4,rfl,-,-⟩:=id hv2.opened;have hk2:=hk1.call hbl2;have hk2':=hk2;unfold Ax' at hk2') | (go_at_call 82;refine ((Hqa _ H0).out).mono ?_;rintro e w1 ⟨v1,rfl,hv1,hbl1⟩;obtain ⟨C1,j1,C2,j2,rfl,-,-⟩:=id hv1.opened;have hk1:=H0.call hbl1;have hk1':=hk1;unfold Ax' at hk1'))
 rename_i hHl
 clear hHl
 have HD:=hk5.done (p:=xl) (q:=xg) (s1:=decide (xl.num<0)) (A1:=E1) (n1:=len xl.num.natAbs) (c1:=i1) (A2:=E2) (n2:=len (below xl.den)) (c2:=i2) (s2:=decide (xg.num<0)) (A3:=E3) (n3:=len xg.num.natAbs) (c3:=i3) (A4:=E4) (n4:=len (below xg.den)) (c4:=i4) (hp1) (hp2)
 obtain ⟨d1,d2,d3⟩:=HD
 obtain ⟨r0,r1,r2,r3,r4,r5⟩:=Aj d3
 have HD:=hid (And.intro d1 d2)
 clear d1 d2 d3
 go_wp2_with fail
 refine bP (v:=.agg #[.bool (decide (xl.num<0)),.slice (E1) (len xl.num.natAbs) (i1),.slice (E2) (len (below xl.den)) (i2),.bool (decide (xg.num<0)),.slice (E3) (len xg.num.natAbs) (i3),.slice (E4) (len (below xg.den)) (i4)]) ?_ rfl ⟨_,rfl,HD.out.1,Ak' HB0.out (by omega) HD.out.2⟩
 simp [results,Tryz.results81,go_sem,r0,r1,r2,r3,r4,r5]
theorem FD {w:World} {v u:Value} {a b c d:Rat} (hv:Ao' w v a b) (hu:Ao' w u c d) (hs1:Aa' a≤1073741824) (hs2:Aa' b≤1073741824) (hs3:Aa' c≤1073741824) (hs4:Aa' d≤1073741824) (h:(c≤0∧0≤d)) :
   Calls Tryz.prog 38 #[v,u] w (B1' w (0) (0) 10):=by
 obtain ⟨A1,c1,A2,c2,A3,c3,A4,c4,rfl,ha,hb⟩:=hv.opened
 obtain ⟨A5,c5,A6,c6,A7,c7,A8,c8,rfl,hc,hd⟩:=hu.opened
 obtain ⟨wB,hwB⟩:=eX (((w.alloc (.cells #[.bool (decide (a.num<0)),.slice A1 (len a.num.natAbs) c1,.slice A2 (len (below a.den)) c2,.bool (decide (b.num<0)),.slice A3 (len b.num.natAbs) c3,.slice A4 (len (below b.den)) c4] 37)).alloc (.cells #[.bool (decide (c.num<0)),.slice A5 (len c.num.natAbs) c5,.slice A6 (len (below c.den)) c6,.bool (decide (d.num<0)),.slice A7 (len d.num.natAbs) c7,.slice A8 (len (below d.den)) c8] 37)).alloc (.cells #[.bool false,.slice none 0 0,.slice none 0 0,.bool false,.slice none 0 0,.slice none 0 0] 37))
 obtain ⟨b0,g0,g1,g2⟩:=AC hwB
 obtain ⟨k0,k1,k2,k3,k4,k5⟩:=Aj g0
 obtain ⟨k6,k7,k8,k9,k10,k11⟩:=Aj g1
 have HK0:=hid (Aq'.start (T:=37) rfl CO g2)
 have HB0:=hid b0
 have hlt1:w.heap.size<w.heap.size+2:=by omega
 have hlt2:w.heap.size+1<w.heap.size+2:=by omega
 clear g0 g1 g2 b0
 have HZ:Aa' 0≤34359738368:=nT (show Aa' 0≤3 by decide +kernel) (by omega)
 have HH:=hid (DS' (x:=0) (Ac'.pair (hc.keep HB0.out) (hd.keep HB0.out)) (Bi' wB) (nT hs3 (by omega)) (nT hs4 (by omega)) HZ)
 have hdec:decide (c≤0∧0≤d)=true:=dT_ h
 rw [hdec] at HH
 clear hv hu ha hb hc hd hs1 hs2 hs3 hs4 h hdec HZ
 go_enter Tryz.func38,Tryz.ntmps38
 go_upto_region 1 with fail
 rw [←hwB]
 clear hwB
 go_wp2_with fail
 refine (HH.out).mono ?_
 rintro e w1 ⟨rfl,b1⟩
 have HK1:=hid (HK0.out.call b1)
 have hk:=HK1.out.held6 (An'.refl _)
 have hk':=hk
 unfold Ax' at hk'
 clear b1 HH
 obtain ⟨-,c0,c1',c2',c3',c4',c5',f0,f1,f2,f3,f4,f5,-⟩:=hk'
 have HD:=hk.done (p:=0) (q:=0) (s1:=false) (A1:=none) (n1:=0) (c1:=0) (A2:=none) (n2:=0) (c2:=0) (s2:=false) (A3:=none) (n3:=0) (c3:=0) (A4:=none) (n4:=0) (c4:=0) (Bi' _) (Bi' _)
 obtain ⟨d1,d2,d3⟩:=HD
 obtain ⟨r0,r1,r2,r3,r4,r5⟩:=Aj d3
 have HD:=hid (And.intro d1 d2)
 clear d1 d2 d3
 go_wp2_with fail
 refine bP (v:=.tuple #[.agg #[.bool (false),.slice (none) (0) (0),.slice (none) (0) (0),.bool (false),.slice (none) (0) (0),.slice (none) (0) (0)],.int .i64 10]) ?_ rfl ⟨_,rfl,HD.out.1,Ak' HB0.out (by omega) HD.out.2⟩
 simp [results,Tryz.results38,go_sem,r0,r1,r2,r3,r4,r5]
theorem G6 {w:World} {v u:Value} {a b c d:Rat} (hv:Ao' w v a b) (hu:Ao' w u c d) (hs1:Aa' a≤1073741824) (hs2:Aa' b≤1073741824) (hs3:Aa' c≤1073741824) (hs4:Aa' d≤1073741824) (h:¬ (c≤0∧0≤d)) :
   Calls Tryz.prog 38 #[v,u] w (B1' w (leastOf ((a / c)) [(a / d),(b / c),(b / d)]) (greatestOf ((a / c)) [(a / d),(b / c),(b / d)]) 0):=by
 obtain ⟨A1,c1,A2,c2,A3,c3,A4,c4,rfl,ha,hb⟩:=hv.opened
 obtain ⟨A5,c5,A6,c6,A7,c7,A8,c8,rfl,hc,hd⟩:=hu.opened
 obtain ⟨wB,hwB⟩:=eX (((w.alloc (.cells #[.bool (decide (a.num<0)),.slice A1 (len a.num.natAbs) c1,.slice A2 (len (below a.den)) c2,.bool (decide (b.num<0)),.slice A3 (len b.num.natAbs) c3,.slice A4 (len (below b.den)) c4] 37)).alloc (.cells #[.bool (decide (c.num<0)),.slice A5 (len c.num.natAbs) c5,.slice A6 (len (below c.den)) c6,.bool (decide (d.num<0)),.slice A7 (len d.num.natAbs) c7,.slice A8 (len (below d.den)) c8] 37)).alloc (.cells #[.bool false,.slice none 0 0,.slice none 0 0,.bool false,.slice none 0 0,.slice none 0 0] 37))
 obtain ⟨b0,g0,g1,g2⟩:=AC hwB
 obtain ⟨k0,k1,k2,k3,k4,k5⟩:=Aj g0
 obtain ⟨k6,k7,k8,k9,k10,k11⟩:=Aj g1
 have HK0:=hid (Aq'.start (T:=37) rfl CO g2)
 have HB0:=hid b0
 have hlt1:w.heap.size<w.heap.size+2:=by omega
 have hlt2:w.heap.size+1<w.heap.size+2:=by omega
 clear g0 g1 g2 b0
 have HZ:Aa' 0≤34359738368:=nT (show Aa' 0≤3 by decide +kernel) (by omega)
 have HH:=hid (DS' (x:=0) (Ac'.pair (hc.keep HB0.out) (hd.keep HB0.out)) (Bi' wB) (nT hs3 (by omega)) (nT hs4 (by omega)) HZ)
 have hdec:decide (c≤0∧0≤d)=false:=dF_ h
 rw [hdec] at HH
 have HX:=fun (w1:World) (hb1:Below w.heap.size w w1)=>hid (Fi' (Ac'.pair (ha.keep hb1) (hb.keep hb1)) (Ac'.pair (hc.keep hb1) (hd.keep hb1)) hs1 hs2 hs3 hs4)
 obtain ⟨q,hq⟩:=eX (leastOf ((a / c)) [(a / d),(b / c),(b / d)]:Rat)
 obtain ⟨r,hr⟩:=eX (greatestOf ((a / c)) [(a / d),(b / c),(b / d)]:Rat)
 rw [←hq,←hr] at HX ⊢
 clear hq hr
 clear hv hu ha hb hc hd hs1 hs2 hs3 hs4 h hdec HZ
 go_enter Tryz.func38,Tryz.ntmps38
 go_upto_region 1 with fail
 rw [←hwB]
 clear hwB
 go_wp2_with fail
 refine (HH.out).mono ?_
 rintro e w1 ⟨rfl,b1⟩
 have HK1:=hid (HK0.out.call b1)
 have hbc:=Au HK1.out.1
 have HY:=HX w1 (Ak' HB0.out (by omega) HK1.out.1)
 clear HX HH b1
 go_wp2_with fail
 refine (HY.out).mono ?_
 rintro e w5 ⟨v5,rfl,hv5,b5⟩
 obtain ⟨C1,j1,C2,j2,C3,j3,C4,j4,rfl,hq1,hr1⟩:=hv5.opened
 have hk:=(HK1.out.call b5).held6 (An'.refl _)
 have hk':=hk
 unfold Ax' at hk'
 clear b5 HY hbc
 obtain ⟨-,c0,c1',c2',c3',c4',c5',f0,f1,f2,f3,f4,f5,-⟩:=hk'
 have HD:=hk.done (p:=q) (q:=r) (s1:=decide (q.num<0)) (A1:=C1) (n1:=len q.num.natAbs) (c1:=j1) (A2:=C2) (n2:=len (below q.den)) (c2:=j2) (s2:=decide (r.num<0)) (A3:=C3) (n3:=len r.num.natAbs) (c3:=j3) (A4:=C4) (n4:=len (below r.den)) (c4:=j4) (hq1) (hr1)
 obtain ⟨d1,d2,d3⟩:=HD
 obtain ⟨r0,r1,r2,r3,r4,r5⟩:=Aj d3
 have HD:=hid (And.intro d1 d2)
 clear d1 d2 d3
 go_wp2_with fail
 refine bP (v:=.tuple #[.agg #[.bool (decide (q.num<0)),.slice (C1) (len q.num.natAbs) (j1),.slice (C2) (len (below q.den)) (j2),.bool (decide (r.num<0)),.slice (C3) (len r.num.natAbs) (j3),.slice (C4) (len (below r.den)) (j4)],.int .i64 0]) ?_ rfl ⟨_,rfl,HD.out.1,Ak' HB0.out (by omega) HD.out.2⟩
 simp [results,Tryz.results38,go_sem,r0,r1,r2,r3,r4,r5]
theorem DE (l:List Rat):∀ (x:Rat),leastOf x l≤x∧∀ y∈l,leastOf x l≤y:=by
 induction l with
 | nil=>intro x;exact ⟨Rat.le_refl,fun _ h=>by cases h⟩
 | cons z l ih =>
   intro x
   have e:leastOf x (z::l)=leastOf (if z<x then z else x) l:=rfl
   rw [e]
   obtain ⟨h1,h2⟩:=ih (if z<x then z else x)
   have h3:(if z<x then z else x)≤x∧(if z<x then z else x)≤z:=by split <;> constructor <;> grind
   refine ⟨Rat.le_trans h1 h3.1,fun y hy=>?_⟩
   rcases List.mem_cons.1 hy with rfl | hy
   · exact Rat.le_trans h1 h3.2
   · exact h2 y hy
theorem CJ' (l:List Rat):∀ (x:Rat),x≤greatestOf x l∧∀ y∈l,y≤greatestOf x l:=by
 induction l with
 | nil=>intro x;exact ⟨Rat.le_refl,fun _ h=>by cases h⟩
 | cons z l ih =>
   intro x
   have e:greatestOf x (z::l)=greatestOf (if x<z then z else x) l:=rfl
   rw [e]
   obtain ⟨h1,h2⟩:=ih (if x<z then z else x)
   have h3:x≤(if x<z then z else x)∧z≤(if x<z then z else x):=by split <;> constructor <;> grind
   refine ⟨Rat.le_trans h3.1 h1,fun y hy=>?_⟩
   rcases List.mem_cons.1 hy with rfl | hy
   · exact Rat.le_trans h3.2 h1
   · exact h2 y hy
theorem DE' (x:Rat) (l:List Rat):leastOf x l∈x::l∧∀ y∈x::l,leastOf x l≤y:=by
 refine ⟨?_,fun y hy=>?_⟩
 · rcases Dv l x with h | h
   · rw [h];exact List.mem_cons_self ..
   · exact List.mem_cons_of_mem _ h
 · rcases List.mem_cons.1 hy with rfl | h
   · exact (DE l y).1
   · exact (DE l x).2 y h
theorem CK (x:Rat) (l:List Rat):greatestOf x l∈x::l∧∀ y∈x::l,y≤greatestOf x l:=by
 refine ⟨?_,fun y hy=>?_⟩
 · rcases CP l x with h | h
   · rw [h];exact List.mem_cons_self ..
   · exact List.mem_cons_of_mem _ h
 · rcases List.mem_cons.1 hy with rfl | h
   · exact (CJ' l y).1
   · exact (CJ' l x).2 y h
def BS (k p:Nat) (lo hi:Rat):Rat:=if (k >>> p)%2=0 then lo else hi
def Cs' (F:Rat→Rat→Rat→Rat) (a0 a1 b0 b1 c0 c1:Rat) (n:Nat):List Rat:=(List.range n).map fun k=>F (BS k 0 a0 a1) (BS k 1 b0 b1) (BS k 2 c0 c1)
theorem CG' (F:Rat→Rat→Rat→Rat) (a0 a1 b0 b1 c0 c1:Rat) (n:Nat):(Cs' F a0 a1 b0 b1 c0 c1 n).length=n:=by simp [Cs']
theorem Gk' (F:Rat→Rat→Rat→Rat) (a0 a1 b0 b1 c0 c1:Rat) (n:Nat):Cs' F a0 a1 b0 b1 c0 c1 n++[F (BS n 0 a0 a1) (BS n 1 b0 b1) (BS n 2 c0 c1)]=Cs' F a0 a1 b0 b1 c0 c1 (n+1):=by simp [Cs',List.range_succ]
def Ct (F:Rat→Rat→Rat→Rat) (a0 a1 b0 b1 c0 c1:Rat):List Rat:=[F a1 b0 c0,F a0 b1 c0,F a1 b1 c0,F a0 b0 c1,F a1 b0 c1,F a0 b1 c1,F a1 b1 c1]
theorem G6' (F:Rat→Rat→Rat→Rat) (a0 a1 b0 b1 c0 c1:Rat):Cs' F a0 a1 b0 b1 c0 c1 8=F a0 b0 c0::Ct F a0 a1 b0 b1 c0 c1:=rfl
def CB (F:Rat→Rat→Rat→Rat) (a0 a1 b0 b1 c0 c1:Rat):Rat:=leastOf (F a0 b0 c0) (Ct F a0 a1 b0 b1 c0 c1)
def CB' (F:Rat→Rat→Rat→Rat) (a0 a1 b0 b1 c0 c1:Rat):Rat:=greatestOf (F a0 b0 c0) (Ct F a0 a1 b0 b1 c0 c1)
theorem DF (k p:Nat) (lo hi:Rat):BS k p lo hi∈[lo,hi]:=by unfold BS;split <;> simp
theorem Gl' {F:Rat→Rat→Rat→Rat} {a0 a1 b0 b1 c0 c1 z:Rat}:z∈F a0 b0 c0::Ct F a0 a1 b0 b1 c0 c1↔∃ x∈[a0,a1],∃ y∈[b0,b1],∃ u∈[c0,c1],F x y u=z:=by
 simp only [Ct,List.mem_cons,List.not_mem_nil,or_false]
 constructor
 · rintro (h | h | h | h | h | h | h | h)
   · exact ⟨a0,Or.inl rfl,b0,Or.inl rfl,c0,Or.inl rfl,h.symm⟩
   · exact ⟨a1,Or.inr rfl,b0,Or.inl rfl,c0,Or.inl rfl,h.symm⟩
   · exact ⟨a0,Or.inl rfl,b1,Or.inr rfl,c0,Or.inl rfl,h.symm⟩
   · exact ⟨a1,Or.inr rfl,b1,Or.inr rfl,c0,Or.inl rfl,h.symm⟩
   · exact ⟨a0,Or.inl rfl,b0,Or.inl rfl,c1,Or.inr rfl,h.symm⟩
   · exact ⟨a1,Or.inr rfl,b0,Or.inl rfl,c1,Or.inr rfl,h.symm⟩
   · exact ⟨a0,Or.inl rfl,b1,Or.inr rfl,c1,Or.inr rfl,h.symm⟩
   · exact ⟨a1,Or.inr rfl,b1,Or.inr rfl,c1,Or.inr rfl,h.symm⟩
 · rintro ⟨x,rfl | rfl,y,rfl | rfl,u,rfl | rfl,rfl⟩ <;> simp
theorem Gm {m n d:Rat} (hd:0<d):m≤n / d↔m*d≤n:=by
 constructor
 · intro h
   have:=Rat.mul_le_mul_of_nonneg_right h (Rat.le_of_lt hd)
   rwa [Rat.div_mul_cancel (by grind)] at this
 · intro h
   have:=Rat.mul_le_mul_of_nonneg_right h (Rat.le_of_lt (Rat.inv_pos.2 hd))
   rwa [Rat.mul_assoc,Rat.mul_inv_cancel _ (by grind),Rat.mul_one,←Rat.div_def] at this
end Go.Proofs.YtflopjfnppolgaaGreatDoor
