/-
  Contracts of the functions that the law calls, for every input (Ua Ub Late).
-/
import Derived.Test.YtbigkkjnhcpgiaaGreatDoorQ00
import Derived.Test.YtbigkkjnhcpgiaaGreatDoorQ37
import Derived.Test.YtbigkkjnhcpgiaaGreatDoorQ38
import Derived.Deep.AppendLies
import Derived.OwnWalk
import Derived.Deep.RegionHeld3
set_option linter.all false
set_option maxRecDepth 100000
set_option maxHeartbeats 40000000
namespace Go.Proofs.YtbigkkjnhcpgiaaGreatDoor.Rf
open Lib (hid)
open Go.RowKit
open Rx
open Vx (Aa' Al' Am)
def NI (u:Value):Prop:=∀ (k:IntKind) (n:Int),u≠.int k n
def B8' (w:World) (v:Value):Prop:=∀ g,v.ownBlock=some g→∀ (o:Nat) (u:Value),w.cell? ⟨g,o,none⟩=some u→NI u
theorem DF {w:World} {g:Nat} {cs:Array Value} {T:TypeId} {fr:Nat × Nat} (hb:w.heap[g]?=some (.cells cs T fr)) (h:∀ u∈cs.toList,NI u):∀ (o:Nat) (u:Value),w.cell? ⟨g,o,none⟩=some u→NI u:=by
 intro o u hu
 rw [cR _ _ _ _ _ _ hb] at hu
 exact h u (List.mem_of_getElem? (by rw [Array.getElem?_toList];exact hu))
theorem I7' {z:Array Value} {n:Nat} (h0:0<z.size) (h:∀ u∈z.toList,NI u):∀ u∈(Builtin.zeroCells z n).toList,NI u:=by
 intro u hu
 simp only [Builtin.zeroCells,Array.toList_map,List.mem_map] at hu
 obtain ⟨i,-,rfl⟩:=hu
 have hlt:i%z.size<z.size:=Nat.mod_lt _ h0
 rw [getElem!_pos z _ hlt]
 exact h _ (Array.getElem_mem_toList hlt)
theorem D5 {a b:List Value} (ha:∀ u∈a,NI u) (hb:∀ u∈b,NI u):∀ u∈a++b,NI u:=by
 intro u hu
 rcases List.mem_append.1 hu with h | h
 · exact ha u h
 · exact hb u h
theorem EM {P:Program} {w:World} {t ty e:TypeId} {base size bytes:Nat} {i:TypeInfo} {z v:Value} (ht:P.underlying t=some (.slice e)) (hi:P.info? e=some i) (hz:i.zero=some z)
   (hsize:i.size=size) (hby:i.bytes=bytes) (hzs:z.cells.size=size) (hsz:0<size) {n:Nat} {xs:List Value} (hown:w.ownsRow base e size v n xs)
   {ad:Addr} {m c:Nat} {news:List Value} (hl:news.length=m*size) (hnews:∀ j u,news[j]?=some u→w.cell? (ad.add j)=some u) (h1:∀ u∈news,u.oneCell'=true)
   (hm:0<m) (h63:n+m≤maxLen) (hbytes:(n+m)*bytes≤140737488355328) (hbase:base≤w.heap.size) (hni:B8' w v) (hnn:∀ u∈news,NI u) (hzn:∀ u∈z.cells.toList,NI u) :
   ∃ g cap w',(Builtin.append_ #[t,t] ty #[v,.slice (some ad) m c]).run P w=.ok (.slice (some ⟨g,0,none⟩) (n+m) cap) w' ∧
     w'.ownsRow base e size (.slice (some ⟨g,0,none⟩) (n+m) cap) (n+m) (xs++news)∧w.grownBy w' v.ownBlock∧(v.ownBlock=some g∨g=w.heap.size)∧g<w'.heap.size∧B8' w' (.slice (some ⟨g,0,none⟩) (n+m) cap):=by
 obtain ⟨g,cap,w',hr,h2,h3,h4,h5⟩:=run_append_lies (P:=P) w t ty base e i z size bytes ht hi hz hsize hby hzs hsz v n xs hown ad m c news hl hnews h1 hm h63 hbytes hbase w.heap.size rfl
 refine ⟨g,cap,w',hr,h2,h3,h4,h5,?_⟩
 subst hsize
 subst hby
 have big:n+m≤9223372036854775807:=by simp only [maxLen] at h63;omega
 have hz0:0<z.cells.size:=by omega
 have hxs:∀ u∈xs,NI u:=by
   intro u hu
   obtain ⟨j,hj⟩:=List.mem_iff_getElem?.1 hu
   rcases hown.2 with ⟨-,h0⟩ | ⟨g0,cap0,cur,hv,-,hg,-,-,-,htk⟩
   · have:=hown.1
     rw [h0,Nat.zero_mul] at this
     rw [List.eq_nil_of_length_eq_zero this] at hu
     cases hu
   · refine hni g0 (by rw [hv];rfl) j u ?_
     rw [cR _ _ _ _ _ _ hg,←Array.getElem?_toList]
     rw [←htk] at hj
     rw [List.getElem?_take] at hj
     split at hj
     · exact hj
     · cases hj
 have key:∀ (old:Nat) (cs:List Value),(∀ u∈cs,NI u)→∀ u':World,u'.heap[g]?=some (.cells (cs.toArray++Builtin.zeroCells z.cells old) e (0,0))→B8' u' (.slice (some ⟨g,0,none⟩) (n+m) cap):=by
   intro old cs hcs u' hb g' hg'
   have:g=g':=Option.some.inj hg'
   subst this
   refine DF hb ?_
   rw [Array.toList_append]
   exact D5 hcs (I7' hz0 hzn)
 rcases hown.2 with ⟨rfl,rfl⟩ | ⟨g0,cap0,cur,rfl,hbg,hg,hnc,hcm,hcs,htk⟩
 · have hr2:=run_append_nil (P:=P) w t ty e i z ht hi hz ad m c news hl hnews (by omega) (by omega) (by have hb:=hbytes;simp only [Nat.zero_add] at hb;omega)
   rw [hr2] at hr
   injection hr with e1 e2
   injection e1 with e3 e4 e5
   injection e3 with e6
   injection e6 with e7
   refine key (grownCap w m 0 e - m) news hnn w' ?_
   rw [←e2,←e7]
   exact hA_ w.drew _
 · by_cases hroom:n+m≤cap0
   · have hfit:n*i.size+news.length≤cur.size:=by rw [hl,hcs,←Nat.add_mul];exact Nat.mul_le_mul_right _ hroom
     have hr2:=run_append_room (P:=P) w t ty e i ht hi g0 n cap0 cur hg ad m c news hl hnews h1 hroom hfit
     rw [hr2] at hr
     injection hr with e1 e2
     injection e1 with e3 e4 e5
     injection e3 with e6
     injection e6 with e7
     subst e7
     intro g' hg'
     have:g0=g':=Option.some.inj hg'
     subst this
     rw [←e2]
     refine DF (setRow_heap w g0 cur _ e _ hg) ?_
     have hcur:∀ u∈cur.toList,NI u:=by
       intro u hu
       obtain ⟨j,hj⟩:=List.mem_iff_getElem?.1 hu
       exact hni g0 rfl j u (by rw [cR _ _ _ _ _ _ hg,←Array.getElem?_toList];exact hj)
     exact D5 (D5 (fun u hu=>hcur u (List.mem_of_mem_take hu)) hnn) (fun u hu=>hcur u (List.mem_of_mem_drop hu))
   · have holds:∀ j u,xs[j]?=some u→w.cell? ((⟨g0,0,none⟩:Addr).add j)=some u:=hown.cells (g:=g0) rfl
     have hr2:=run_append_grow (P:=P) w t ty e i z ht hi hz ⟨g0,0,none⟩ n cap0 xs hown.1 holds ad m c news hl hnews (by omega) (by omega) (growslice_fits (by omega) hbytes)
     rw [hr2] at hr
     injection hr with e1 e2
     injection e1 with e3 e4 e5
     injection e3 with e6
     injection e6 with e7
     refine key (grownCap w (n+m) cap0 e - (n+m)) (xs++news) (D5 hxs hnn) w' ?_
     rw [←e2,←e7,←List.append_toArray]
     exact hA_ w.drew _
theorem Dn {P:Program} {o:Oper} {a:Act} {w:World} {K:Act→World→Prop} {Q:Exit→Act→World→Prop} {s x:Operand} {t:TypeId}
   (ho:o.op=.call { callee:=.builtin .append,args:=#[s,x],argTypes:=#[t,t] }) {base size bytes:Nat} {e:TypeId} {i:TypeInfo} {z:Value} (ht:P.underlying t=some (.slice e)) (hi:P.info? e=some i) (hz:i.zero=some z)
   (hsize:i.size=size) (hby:i.bytes=bytes) (hzs:z.cells.size=size) (hsz:0<size) {v:Value} {n:Nat} {xs:List Value} (hs:a.eval s=v) (hown:w.ownsRow base e size v n xs)
   {ad:Addr} {m c:Nat} {news:List Value} (hx:a.eval x=.slice (some ad) m c) (hl:news.length=m*size) (hnews:∀ j u,news[j]?=some u→w.cell? (ad.add j)=some u) (h1:∀ u∈news,u.oneCell'=true)
   (hm:0<m) (h63:n+m≤maxLen) (hbytes:(n+m)*bytes≤140737488355328) (hbase:base≤w.heap.size) (hni:B8' w v) (hnn:∀ u∈news,NI u) (hzn:∀ u∈z.cells.toList,NI u)
   (h:∀ g cap w',w'.ownsRow base e size (.slice (some ⟨g,0,none⟩) (n+m) cap) (n+m) (xs++news)→w.grownBy w' v.ownBlock→(v.ownBlock=some g∨g=w.heap.size)→g<w'.heap.size→B8' w' (.slice (some ⟨g,0,none⟩) (n+m) cap) →
     K (a.put o.dst (.slice (some ⟨g,0,none⟩) (n+m) cap)) w'):o.wp P a w K Q:=by
 obtain ⟨g,cap,w',hr,h2,h3,h4,h5,h6⟩:=EM (P:=P) (ty:=o.type) ht hi hz hsize hby hzs hsz hown hl hnews h1 hm h63 hbytes hbase hni hnn hzn (c:=c)
 unfold Oper.wp execOp
 simp only [ho,resolve,invoke,builtin,Sem.run_bind,Sem.run_pure,Result.andThen_ok,List.map_toArray,List.map_cons,List.map_nil,hs,hx,hr]
 exact h g cap w' h2 h3 h4 h5 h6
theorem D5' {w w':World} {v:Value} (hni:B8' w v) (hg:w.grownBy w' v.ownBlock):AU w w':=by
 have hb:∀ (g o:Nat) (n:Int) (k:IntKind),w.cell? ⟨g,o,none⟩=some (.int k n)→some g≠v.ownBlock:=fun g o n k hc he=>hni g he.symm o _ hc k n rfl
 have hN:∀ x z,Nt w x z→Nt w' x z:=by
   rintro x z ⟨A,c,h1,h2,h3,h4,h5⟩
   refine ⟨A,c,h1,h2,h3,h4,fun hx=>?_⟩
   obtain ⟨b,o,h6,h7,h8⟩:=h5 hx
   have hne:some b≠v.ownBlock:=hb b (o+0) _ _ (h8 0 (Vx.Aj'.2 hx))
   exact ⟨b,o,h6,ltl h7 hg.size,fun j hj=>(hg.cell_far ⟨b,o+j,none⟩ h7 hne).trans (h8 j hj)⟩
 have hB:∀ x z,Ak w x z→Ak w' x z:=by
   rintro x z ⟨A,c,h1,h2,h3,h4,h5⟩
   refine ⟨A,c,h1,h2,h3,h4,fun hx=>?_⟩
   obtain ⟨b,o,h6,h7,h8⟩:=h5 hx
   have hne:some b≠v.ownBlock:=hb b (o+0) _ _ (h8 0 hx)
   exact ⟨b,o,h6,ltl h7 hg.size,fun j hj=>(hg.cell_far ⟨b,o+j,none⟩ h7 hne).trans (h8 j hj)⟩
 exact ⟨fun x z h=>hN x z h,fun x z h=>hB x z h⟩
def CH (I:Value→Rat→Prop):List Value→List Rat→Prop
  | [],[]=>True
  | a::b::c::xs,q::l=>I (.agg #[a,b,c]) q∧CH I xs l
  | _,_=>False
theorem CH.mono {I J:Value→Rat→Prop} (hI:∀ v q,I v q→J v q):∀ {l:List Rat} {xs:List Value},CH I xs l→CH J xs l
 | [],[],_=>trivial
 | _::_,_::_::_::_,h=>⟨hI _ _ h.1,h.2.mono hI⟩
 | _::_,[],h=>h.elim
 | _::_,[_],h=>h.elim
 | _::_,[_,_],h=>h.elim
 | [],[_],h=>h.elim
 | [],[_,_],h=>h.elim
 | [],_::_::_::_,h=>h.elim
theorem CH.snoc {I:Value→Rat→Prop} {a b c:Value} {q:Rat} (hq:I (.agg #[a,b,c]) q):∀ {l:List Rat} {xs:List Value},CH I xs l→CH I (xs++[a,b,c]) (l++[q])
 | [],[],_=>⟨hq,trivial⟩
 | _::_,_::_::_::_,h=>⟨h.1,h.2.snoc hq⟩
 | _::_,[],h=>h.elim
 | _::_,[_],h=>h.elim
 | _::_,[_,_],h=>h.elim
 | [],[_],h=>h.elim
 | [],[_,_],h=>h.elim
 | [],_::_::_::_,h=>h.elim
theorem CH.length {I:Value→Rat→Prop}:∀ {l:List Rat} {xs:List Value},CH I xs l→xs.length=l.length*3
 | [],[],_=>rfl
 | _::_,_::_::_::_,h=>by have:=h.2.length;simp only [List.length_cons];omega
 | _::_,[],h=>h.elim
 | _::_,[_],h=>h.elim
 | _::_,[_,_],h=>h.elim
 | [],[_],h=>h.elim
 | [],[_,_],h=>h.elim
 | [],_::_::_::_,h=>h.elim
theorem CH.get {I:Value→Rat→Prop}:∀ {l:List Rat} {xs:List Value} {i:Nat} {q:Rat},CH I xs l→l[i]?=some q→∃ a b c,xs[i*3]?=some a∧xs[i*3+1]?=some b∧xs[i*3+2]?=some c∧I (.agg #[a,b,c]) q
 | _::_,a::b::c::_,0,_,h,e=>by
   obtain rfl:=Option.some.inj e
   exact ⟨a,b,c,rfl,rfl,rfl,h.1⟩
 | _::_,a::b::c::_,i+1,_,h,e=>by
   obtain ⟨x,y,z,h1,h2,h3,h4⟩:=CH.get (i:=i) h.2 e
   have e3:(i+1)*3=i*3+3:=by omega
   have e4:(i+1)*3+1=i*3+1+3:=by omega
   have e5:(i+1)*3+2=i*3+2+3:=by omega
   exact ⟨x,y,z,by rw [e3];exact h1,by rw [e4];exact h2,by rw [e5];exact h3,h4⟩
 | _::_,[],_,_,h,_=>h.elim
 | _::_,[_],_,_,h,_=>h.elim
 | _::_,[_,_],_,_,h,_=>h.elim
 | [],_,_,_,_,e=>by simp at e
def A8' (I:World→Value→Rat→Prop) (T:TypeId) (B:Nat) (w:World) (v:Value) (l:List Rat):Prop :=
  ∃ g cap xs,v=.slice (some ⟨g,0,none⟩) l.length cap∧w.ownsRow B T 3 v l.length xs∧B8' w v∧CH (I w) xs l
theorem EM' {w w':World} {B:Nat} {T:TypeId} {v:Value} {n:Nat} {xs:List Value} (h:w.ownsRow B T 3 v n xs) (hb:∀ g,v.ownBlock=some g→g<w.heap.size→w'.heap[g]?=w.heap[g]?):w'.ownsRow B T 3 v n xs:=by
 refine ⟨h.1,?_⟩
 rcases h.2 with h0 | ⟨g,cap,cur,hv,h1,h2,h3⟩
 · exact Or.inl h0
 · exact Or.inr ⟨g,cap,cur,hv,h1,(hb g (by rw [hv];rfl) (gE.1 h2).1).trans h2,h3⟩
theorem DF' {w w':World} {v:Value} (h:B8' w v) (hl:∀ g,v.ownBlock=some g→g<w.heap.size) (hb:∀ g,v.ownBlock=some g→g<w.heap.size→w'.heap[g]?=w.heap[g]?):B8' w' v:=by
 intro g hg o u hu
 rw [World.cell?_of_block (a:=⟨g,o,none⟩) (hb g hg (hl g hg))] at hu
 exact h g hg o u hu
theorem A8'.block {I:World→Value→Rat→Prop} {T:TypeId} {B:Nat} {w w':World} {v:Value} {l:List Rat} (h:A8' I T B w v l) (hb:∀ g,v.ownBlock=some g→g<w.heap.size→w'.heap[g]?=w.heap[g]?) (hI:∀ v q,I w v q→I w' v q):A8' I T B w' v l:=by
 obtain ⟨g,cap,xs,hv,h1,h2,h3⟩:=h
 exact ⟨g,cap,xs,hv,EM' h1 hb,DF' h2 (fun k hk=>(h1.lt k hk).2) hb,h3.mono hI⟩
theorem A8'.keep {I:World→Value→Rat→Prop} {T:TypeId} {B:Nat} {w w':World} {v:Value} {l:List Rat} (h:A8' I T B w v l) (hb:Below w.heap.size w w') (hI:∀ v q,I w v q→I w' v q):A8' I T B w' v l:=h.block (fun g _ hlt=>hb.block g hlt) hI
theorem A8'.other {I:World→Value→Rat→Prop} {T:TypeId} {B:Nat} {w w':World} {v v':Value} {l:List Rat} (h:A8' I T B w v l) (hg:w.grownBy w' v'.ownBlock) (hne:∀ g,v.ownBlock=some g→v'.ownBlock≠some g) (hI:∀ v q,I w v q→I w' v q):A8' I T B w' v l :=
 h.block (fun g hv hlt=>hg.block g hlt (fun e=>hne g hv e.symm)) hI
theorem A8'.push {I:World→Value→Rat→Prop} {T:TypeId} {B:Nat} {w w':World} {l:List Rat} {g cap:Nat} {xs:List Value} {a b c:Value} {q:Rat} (hx:CH (I w) xs l) (hI:∀ v q,I w v q→I w' v q) (hq:I w' (.agg #[a,b,c]) q)
   (hown:w'.ownsRow B T 3 (.slice (some ⟨g,0,none⟩) (l.length+1) cap) (l.length+1) (xs++[a,b,c])) (hni:B8' w' (.slice (some ⟨g,0,none⟩) (l.length+1) cap)):A8' I T B w' (.slice (some ⟨g,0,none⟩) (l.length+1) cap) (l++[q]):=by
 have e:(l++[q]).length=l.length+1:=by simp
 exact ⟨g,cap,xs++[a,b,c],by rw [e],by rw [e];exact hown,hni,(hx.mono hI).snoc hq⟩
def Ba' (w:World) (b o:Nat) (l:List Rat):Prop:=∀ (i:Nat) (q:Rat),l[i]?=some q→∃ s A1 n1 c1 A2 n2 c2,w.cell? ⟨b,o+i*3,none⟩=some (.bool s)∧w.cell? ⟨b,o+i*3+1,none⟩=some (.slice A1 n1 c1)∧w.cell? ⟨b,o+i*3+2,none⟩=some (.slice A2 n2 c2)∧Ac' w (.agg #[.bool s,.slice A1 n1 c1,.slice A2 n2 c2]) q
def Bx' (w:World) (b o:Nat) (l:List Rat):Prop:=∀ (i:Nat) (q:Rat),l[i]?=some q→∃ s A1 n1 c1 A2 n2 c2,w.cell? ⟨b,o+i*3,none⟩=some (.bool s)∧w.cell? ⟨b,o+i*3+1,none⟩=some (.slice A1 n1 c1)∧w.cell? ⟨b,o+i*3+2,none⟩=some (.slice A2 n2 c2)∧Ah' w (.agg #[.bool s,.slice A1 n1 c1,.slice A2 n2 c2]) q
theorem Ba'.keep {w w':World} {b o:Nat} {l:List Rat} (h:Ba' w b o l) (hb:Below w.heap.size w w'):Ba' w' b o l:=by
 intro i q hi
 obtain ⟨s,A1,n1,c1,A2,n2,c2,h0,h1,h2,h3⟩:=h i q hi
 have hl:=bL w _ h0
 exact ⟨s,A1,n1,c1,A2,n2,c2,(hb.cell (p:=⟨b,o+i*3,none⟩) hl).trans h0,(hb.cell (p:=⟨b,o+i*3+1,none⟩) hl).trans h1,(hb.cell (p:=⟨b,o+i*3+2,none⟩) hl).trans h2,h3.keep hb⟩
theorem Bx'.keep {w w':World} {b o:Nat} {l:List Rat} (h:Bx' w b o l) (hb:Below w.heap.size w w'):Bx' w' b o l:=by
 intro i q hi
 obtain ⟨s,A1,n1,c1,A2,n2,c2,h0,h1,h2,h3⟩:=h i q hi
 have hl:=bL w _ h0
 exact ⟨s,A1,n1,c1,A2,n2,c2,(hb.cell (p:=⟨b,o+i*3,none⟩) hl).trans h0,(hb.cell (p:=⟨b,o+i*3+1,none⟩) hl).trans h1,(hb.cell (p:=⟨b,o+i*3+2,none⟩) hl).trans h2,h3.keep hb⟩
theorem Cg {w:World} {B:Nat} {T:TypeId} {g n cap:Nat} {xs:List Value} {j:Nat} {u:Value} (h:w.ownsRow B T 3 (.slice (some ⟨g,0,none⟩) n cap) n xs) (hj:xs[j]?=some u):w.cell? ⟨g,0+j,none⟩=some u:=by
 have:=h.cells (g:=g) rfl j u hj
 rw [Addr.add_lit] at this
 exact this
theorem A8'.nums {T:TypeId} {B:Nat} {w:World} {v:Value} {l:List Rat} (h:A8' Ac' T B w v l):∃ g cap,v=.slice (some ⟨g,0,none⟩) l.length cap∧Ba' w g 0 l:=by
 obtain ⟨g,cap,xs,rfl,h1,-,h3⟩:=h
 refine ⟨g,cap,rfl,fun i q hi=>?_⟩
 obtain ⟨a,b,c,e1,e2,e3,hq⟩:=h3.get hi
 obtain ⟨A1,c1,A2,c2,he,-,-⟩:=id hq.opened
 injection he with he
 injection he with he
 simp only [List.cons.injEq] at he
 obtain ⟨rfl,rfl,rfl,-⟩:=he
 exact ⟨_,_,_,_,_,_,_,Cg h1 e1,Cg h1 e2,Cg h1 e3,hq⟩
theorem A8'.rats {T:TypeId} {B:Nat} {w:World} {v:Value} {l:List Rat} (h:A8' Ah' T B w v l):∃ g cap,v=.slice (some ⟨g,0,none⟩) l.length cap∧Bx' w g 0 l:=by
 obtain ⟨g,cap,xs,rfl,h1,-,h3⟩:=h
 refine ⟨g,cap,rfl,fun i q hi=>?_⟩
 obtain ⟨a,b,c,e1,e2,e3,hq⟩:=h3.get hi
 obtain ⟨A1,c1,A2,c2,he,-,-⟩:=id hq.opened
 injection he with he
 injection he with he
 simp only [List.cons.injEq] at he
 obtain ⟨rfl,rfl,rfl,-⟩:=he
 exact ⟨_,_,_,_,_,_,_,Cg h1 e1,Cg h1 e2,Cg h1 e3,hq⟩
open List renaming getElem?_toArray → lg, getElem?_cons_zero → lz, getElem?_cons_succ → ls, setIfInBounds_toArray → lt, set_cons_zero → ly, set_cons_succ → lu
theorem Cw {P:Program} {o:Oper} {a:Act} {w:World} {K:Act→World→Prop} {Q:Exit→Act→World→Prop} {s x:Operand} {t:TypeId}
   (ho:o.op=.call { callee:=.builtin .append,args:=#[s,x],argTypes:=#[t,t] }) {e:TypeId} {bytes:Nat} (ht:P.underlying t=some (.slice e)) (hi:(P.info? e).map (fun i=>(i.zero,i.size,i.bytes))=some (some (.agg #[.bool false,.slice none 0 0,.slice none 0 0]),3,bytes))
   {I:World→Value→Rat→Prop} (hI:∀ w w',AU w w'→∀ v q,I w v q→I w' v q) {B:Nat} {v:Value} {l:List Rat} {q:Rat} (hs:a.eval s=v) (hG:A8' I e B w v l) {k c n1 c1 n2 c2:Nat} {A1 A2:Option Addr} {s1:Bool} (hx:a.eval x=.slice (some ⟨k,0,none⟩) 1 c)
   (hrow:w.heap[k]?=some (.cells #[.bool s1,.slice A1 n1 c1,.slice A2 n2 c2] e (0,0))) (hq:I w (.agg #[.bool s1,.slice A1 n1 c1,.slice A2 n2 c2]) q) (hn:(l.length+1)*bytes≤140737488355328) (hm:l.length+1≤maxLen) (hB:B≤w.heap.size)
   (h:∀ v' w',A8' I e B w' v' (l++[q])→AU w w'→w.grownBy w' v.ownBlock→(∀ g,v'.ownBlock=some g→v.ownBlock=some g∨g=w.heap.size)→K (a.put o.dst v') w'):o.wp P a w K Q:=by
 obtain ⟨i,hi1,hi2,hi3,hi4⟩:=info_parts hi
 obtain ⟨g0,cap0,xs,hv,hown,hni,hels⟩:=hG
 obtain ⟨r0,r1,r2⟩:=Ab' hrow
 refine Dn ho ht hi1 hi2 hi3 hi4 rfl (by decide) hs hown hx (news:=[.bool s1,.slice A1 n1 c1,.slice A2 n2 c2]) rfl ?_ ?_ (by decide) hm hn hB hni ?_ ?_ ?_
 · intro j u hj
   match j with
   | 0=>obtain rfl:=Option.some.inj hj;exact r0
   | 1=>obtain rfl:=Option.some.inj hj;exact r1
   | 2=>obtain rfl:=Option.some.inj hj;exact r2
   | j+3=>simp at hj
 · intro u hu
   simp only [List.mem_cons,List.not_mem_nil,or_false] at hu
   rcases hu with rfl | rfl | rfl <;> rfl
 · intro u hu k n
   simp only [List.mem_cons,List.not_mem_nil,or_false] at hu
   rcases hu with rfl | rfl | rfl <;> simp
 · intro u hu k n
   simp only [Value.cells,List.mem_cons,List.not_mem_nil,or_false] at hu
   rcases hu with rfl | rfl | rfl <;> simp
 · intro g cap w' h1 h2 h3 h4 h5
   have LV:=D5' hni h2
   refine h _ w' (A8'.push hels (fun v q hv=>hI _ _ LV v q hv) (hI _ _ LV _ _ hq) h1 h5) LV h2 ?_
   intro g' hg'
   obtain rfl:g=g':=Option.some.inj hg'
   exact h3
structure St (w u:World) (X:Nat) (ox oy:Obj) (av bv:Value) (la lb:List Rat) (vx vy:Value) (q:Rat):Prop where
  ga:A8' Ac' 33 w.heap.size u av la
  gb:A8' Ah' 39 w.heap.size u bv lb
  dis:∀ g,av.ownBlock=some g→bv.ownBlock≠some g
  nx:Ac' u vx q
  ny:Ah' u vy q
  rx:u.heap[X]?=some ox
  ry:u.heap[X+1]?=some oy
  ax:av.ownBlock≠some X∧av.ownBlock≠some (X+1)
  bx:bv.ownBlock≠some X∧bv.ownBlock≠some (X+1)
  hb:Below w.heap.size w u
theorem A8'.own {I:World→Value→Rat→Prop} {T:TypeId} {B:Nat} {w:World} {v:Value} {l:List Rat} (h:A8' I T B w v l):∀ g,v.ownBlock=some g→B≤g∧g<w.heap.size:=by
 obtain ⟨g,cap,xs,rfl,h1,-,-⟩:=h
 exact h1.lt
variable {w u u':World} {X:Nat} {ox oy:Obj} {av bv:Value} {la lb:List Rat} {vx vy:Value} {q:Rat}
theorem St.keep (h:St w u X ox oy av bv la lb vx vy q) (hb:Below u.heap.size u u'):St w u' X ox oy av bv la lb vx vy q :=
 ⟨h.ga.keep hb (fun _ _ k=>k.keep hb),h.gb.keep hb (fun _ _ k=>k.keep hb),h.dis,h.nx.keep hb,h.ny.keep hb,Ad' h.rx hb,Ad' h.ry hb,h.ax,h.bx,chain h.hb hb⟩
theorem St.pushA {av':Value} (h:St w u X ox oy av bv la lb vx vy q) (hG:A8' Ac' 33 w.heap.size u' av' (la++[q])) (LV:AU u u') (GR:u.grownBy u' av.ownBlock) (ho:∀ g,av'.ownBlock=some g→av.ownBlock=some g∨g=u.heap.size):St w u' X ox oy av' bv (la++[q]) lb vx vy q:=by
 have hne:∀ k,u.heap[k]?=some ox∨u.heap[k]?=some oy→k<u.heap.size:=fun k hk=>by rcases hk with hk | hk <;> exact at_lt hk
 have hX:=hne X (Or.inl h.rx)
 have hY:=hne _ (Or.inr h.ry)
 refine ⟨hG,h.gb.other GR (fun g hg he=>h.dis g he hg) (fun _ _ k=>LV.rat k),fun g hg he=>?_,LV.num h.nx,LV.rat h.ny,(GR.block _ hX (fun e=>h.ax.1 e.symm)).trans h.rx,(GR.block _ hY (fun e=>h.ax.2 e.symm)).trans h.ry,⟨fun e=>?_,fun e=>?_⟩,h.bx,Below.grown h.hb GR h.hb.size (fun k hk=>(h.ga.own k hk).1)⟩
 · rcases ho g hg with k | k
   · exact h.dis g k he
   · have:=(h.gb.own g he).2;omega
 · rcases ho _ e with k | k
   · exact h.ax.1 k
   · omega
 · rcases ho _ e with k | k
   · exact h.ax.2 k
   · omega
theorem St.pushB {bv':Value} (h:St w u X ox oy av bv la lb vx vy q) (hG:A8' Ah' 39 w.heap.size u' bv' (lb++[q])) (LV:AU u u') (GR:u.grownBy u' bv.ownBlock) (ho:∀ g,bv'.ownBlock=some g→bv.ownBlock=some g∨g=u.heap.size):St w u' X ox oy av bv' la (lb++[q]) vx vy q:=by
 have hne:∀ k,u.heap[k]?=some ox∨u.heap[k]?=some oy→k<u.heap.size:=fun k hk=>by rcases hk with hk | hk <;> exact at_lt hk
 have hX:=hne X (Or.inl h.rx)
 have hY:=hne _ (Or.inr h.ry)
 refine ⟨h.ga.other GR (fun g hg he=>h.dis g hg he) (fun _ _ k=>LV.num k),hG,fun g hg he=>?_,LV.num h.nx,LV.rat h.ny,(GR.block _ hX (fun e=>h.bx.1 e.symm)).trans h.rx,(GR.block _ hY (fun e=>h.bx.2 e.symm)).trans h.ry,h.ax,⟨fun e=>?_,fun e=>?_⟩,Below.grown h.hb GR h.hb.size (fun k hk=>(h.gb.own k hk).1)⟩
 · rcases ho g he with k | k
   · exact h.dis g hg k
   · have:=(h.ga.own g hg).2;omega
 · rcases ho _ e with k | k
   · exact h.bx.1 k
   · omega
 · rcases ho _ e with k | k
   · exact h.bx.2 k
   · omega
theorem Ek:∀ w w':World,AU w w'→∀ v q,Ac' w v q→Ac' w' v q:=fun _ _ h _ _ k=>h.num k
theorem Ek':∀ w w':World,AU w w'→∀ v q,Ah' w v q→Ah' w' v q:=fun _ _ h _ _ k=>h.rat k
theorem El:(Tryz.prog.info? 33).map (fun i=>(i.zero,i.size,i.bytes))=some (some (.agg #[.bool false,.slice none 0 0,.slice none 0 0]),3,56):=by kernel_rfl
theorem El':(Tryz.prog.info? 39).map (fun i=>(i.zero,i.size,i.bytes))=some (some (.agg #[.bool false,.slice none 0 0,.slice none 0 0]),3,56):=by kernel_rfl
def vals (ss:List ByteArray):List Rat:=ss.map fun s=>(Ap' s).1
theorem Hp {ss:List ByteArray} {k:Nat} {s:ByteArray} (h:ss[k]?=some s):vals (ss.take k)++[(Ap' s).1]=vals (ss.take (k+1)):=by
 rw [List.take_add_one,h,Option.toList_some]
 simp [vals]
theorem Fm (ss:List ByteArray) (k:Nat) (h:k≤ss.length):(vals (ss.take k)).length=k:=by
 simp [vals,Nat.min_eq_left h]
def AM' (w:World) (ad:Option Addr) (ss:List ByteArray):Prop:=∀ (i:Nat) (s:ByteArray),ss[i]?=some s→∃ b o,ad=some ⟨b,o,none⟩∧w.cell? ⟨b,o+i,none⟩=some (.string s)
theorem AM'.keep {ad:Option Addr} {ss:List ByteArray} (h:AM' w ad ss) (hb:Below w.heap.size w u):AM' u ad ss:=by
 intro i s hi
 obtain ⟨b,o,e,hc⟩:=h i s hi
 exact ⟨b,o,e,(hb.cell (bL w _ hc)).trans hc⟩
def Dn' (w:World) (ss:List ByteArray) (k:Nat) (av bv:Value) (u:World):Prop :=
  A8' Ac' 33 w.heap.size u av (vals (ss.take k))∧A8' Ah' 39 w.heap.size u bv (vals (ss.take k))∧(∀ g,av.ownBlock=some g→bv.ownBlock≠some g)∧Below w.heap.size w u∧∀ s∈ss.take k,s.size≤40
theorem St.to (h:St w u X ox oy av bv la lb vx vy q) {ss:List ByteArray} {k:Nat} {s:ByteArray} (hs:ss[k]?=some s) (h40:s.size≤40) (hold:∀ s∈ss.take k,s.size≤40) (ea:la=vals (ss.take k)++[(Ap' s).1]) (eb:lb=vals (ss.take k)++[(Ap' s).1]):Dn' w ss (k+1) av bv u:=by
 rw [Hp hs] at ea eb
 subst ea eb
 refine ⟨h.ga,h.gb,h.dis,h.hb,?_⟩
 rw [List.take_add_one,hs,Option.toList_some]
 intro x hx
 rcases List.mem_append.1 hx with hx | hx
 · exact hold x hx
 · obtain rfl:=List.mem_singleton.1 hx
   exact h40
def A9 (w:World) (ss:List ByteArray) (e:Ending) (u:World):Prop :=
  (((¬ (20<ss.length∧ss.length≤200∨210<ss.length))∧∀ s∈ss,s.size≤40)∧∃ g1 c1 g2 c2,e=.returned (.tuple #[.slice (some ⟨g1,0,none⟩) ss.length c1,.slice (some ⟨g2,0,none⟩) ss.length c2,.bool true])∧Ba' u g1 0 (vals ss)∧Bx' u g2 0 (vals ss)∧Below w.heap.size w u) ∨
  (¬ ((¬ (20<ss.length∧ss.length≤200∨210<ss.length))∧∀ s∈ss,s.size≤40)∧e=.returned (.tuple #[.slice none 0 0,.slice none 0 0,.bool false])∧Below w.heap.size w u)
theorem Dn'.ret {ss:List ByteArray} (h:Dn' w ss ss.length av bv u) (hc:¬ (20<ss.length∧ss.length≤200∨210<ss.length)):A9 w ss (.returned (.tuple #[av,bv,.bool true])) u:=by
 obtain ⟨h1,h2,-,h3,h4⟩:=h
 rw [List.take_length] at h1 h2 h4
 obtain ⟨g1,c1,rfl,k1⟩:=h1.nums
 obtain ⟨g2,c2,rfl,k2⟩:=h2.rats
 have e:(vals ss).length=ss.length:=by simp [vals]
 exact Or.inl ⟨⟨hc,h4⟩,g1,c1,g2,c2,by rw [e],k1,k2,h3⟩
theorem Fm' {I:World→Value→Rat→Prop} {T:TypeId} {B:Nat} {w:World} (hB:B≤w.heap.size):A8' I T B (w.alloc (.cells #[] T)) (.slice (some ⟨w.heap.size,0,none⟩) 0 0) [] :=
 ⟨w.heap.size,0,[],rfl,World.ownsRow_made w #[] 0 hB (by decide) rfl,fun g hg o u hu=>by
   obtain rfl:w.heap.size=g:=Option.some.inj hg
   rw [cR _ _ _ _ _ _ (hA_ w _)] at hu
   simp at hu,trivial⟩
def DP (P:Program) (ops:Array Oper) (Q:Exit→Act→World→Prop) (s:Nat) (e:Exit) (a:Act) (w:World):Prop :=
  match e with
  | .normal=>wpOp P ops Q s (Q .normal) a w
  | e=>Q e a w
theorem I8 {P:Program} {ops:Array Oper} {Q:Exit→Act→World→Prop} {s:Nat} {o:Oper} {a:Act} {w:World} {K:Act→World→Prop}:o.wp P a w K (DP P ops Q s)=o.wp P a w K Q:=by
 unfold Oper.wp Oper.upon
 split <;> rfl
theorem I8' {P:Program} {ops:Array Oper} {Q:Exit→Act→World→Prop} {s i:Nat} {o d:Oper} (ho:ops[s]?=some o) (hds:d.dst=o.dst) (hne:i≠s) {a:Act} {w:World} {K:Act→World→Prop} :
   wpOp P (ops.setIfInBounds s d) (DP P ops Q s) i K a w=wpOp P ops Q i K a w:=by
 have hg:(ops.setIfInBounds s d)[i]?=ops[i]?:=Array.getElem?_setIfInBounds_ne (Ne.symm hne)
 have hy:yielded (ops.setIfInBounds s d) a.tmps=yielded ops a.tmps:=by
   funext j
   unfold yielded
   rcases Nat.decEq s j with h | h
   · rw [Array.getElem?_setIfInBounds_ne h]
   · subst h
     have hlt:s<ops.size:=(gE.1 ho).1
     rw [Array.getElem?_setIfInBounds_self_of_lt hlt,ho]
     simp only [Option.bind_some,hds]
 unfold wpOp
 rw [hg,hy]
 cases ops[i]? with
 | none=>rfl
 | some x=>dsimp only;rw [I8];rfl
theorem C7' {ops:Array Oper} {md:Region.Mode} {s:Nat} {o d:Oper} (ho:ops[s]?=some o) (hda:d.after=o.after) (listed:Array Bool):Region.ready md (ops.setIfInBounds s d) listed=Region.ready md ops listed:=by
 have hlt:s<ops.size:=(gE.1 ho).1
 unfold Region.ready
 rw [Array.size_setIfInBounds]
 congr 1
 funext i
 rcases Nat.decEq s i with h | h
 · rw [Array.getElem?_setIfInBounds_ne h]
 · subst h
   rw [Array.getElem?_setIfInBounds_self_of_lt hlt,ho]
   simp only [Option.map_some,hda]
def IL (md:Region.Mode) (ops:Array Oper) (s:Nat):Bool :=
  (List.range ops.size).all fun i=>match ops[i]? with
    | some x=>x.after.all (fun e => !Region.binds md e || decide (e.on<i)) && (decide (i=s) || (match ops[s]? with | some y=>y.after.any fun e=>Region.binds md e && decide (e.on=i) | none=>false))
    | none=>true
theorem D6 {ops:Array Oper} {md:Region.Mode} {listed:Array Bool} (hl:listed.size=ops.size) (h:∀ i x,ops[i]?=some x→∀ e∈x.after,Region.binds md e=true→e.on<i) :
   ∀ n s,s≤n→s<ops.size→listed.getD s true=false→Region.ready md ops listed≠[]:=by
 intro n
 induction n with
 | zero =>
   intro s hs hlt hu
   obtain rfl:s=0:=by omega
   intro h0
   have:0∈Region.ready md ops listed:=mem_ready.2 ⟨hu,ops[0],by simp [hlt],fun e he hb=>absurd (h 0 _ (by simp [hlt]) e he hb) (by omega)⟩
   rw [h0] at this
   cases this
 | succ n ih =>
   intro s hs hlt hu
   rcases Decidable.em (∃ j,j<s∧listed.getD j true=false) with ⟨j,hj,hju⟩ | hall
   · exact ih j (by omega) (by omega) hju
   · intro h0
     have:s∈Region.ready md ops listed:=mem_ready.2 ⟨hu,ops[s],by simp [hlt],fun e he hb=>by
       have h1:=h s _ (by simp [hlt]) e he hb
       have h2:¬ listed.getD e.on true=false:=fun k=>hall ⟨_,h1,k⟩
       have h3:e.on<listed.size:=by omega
       simp only [Array.getD,h3,dif_pos] at h2 ⊢
       simpa using h2⟩
     rw [h0] at this
     cases this
theorem Fn {P:Program} {ops:Array Oper} {Q:Exit→Act→World→Prop} {md:Region.Mode} {s:Nat} {o d:Oper} {v:Value} (ho:ops[s]?=some o) (hds:d.dst=o.dst) (hd0:d.dst=none) (hda:d.after=o.after) (hdg:d.guard=none)
   (hrun:∀ (a:Act) (w:World),(execOp a.eval d).run P w=.ok (.value v) w) (hask:∀ a w,¬ d.asks P a w)
   (hlow:∀ i x,ops[i]?=some x→∀ e∈x.after,Region.binds md e=true→e.on<i) (hall:∀ j,j≠s→j<ops.size→∃ e∈o.after,Region.binds md e=true∧e.on=j) :
   ∀ (fuel:Nat) (listed:Array Bool) (a:Act) (w:World),listed.size=ops.size→listed.getD s true=false →
     wpAny P md (ops.setIfInBounds s d) (DP P ops Q s) fuel listed a w→wpAny P md ops Q fuel listed a w:=by
 have hlt:s<ops.size:=(gE.1 ho).1
 intro fuel
 induction fuel with
 | zero =>
   intro listed a w hsz hu h
   have:=h.1
   rw [C7' ho hda] at this
   exact absurd this (D6 hsz hlow s s (nL _) hlt hu)
 | succ fuel ih =>
   intro listed a w hsz hu h
   refine ⟨fun h0=>absurd h0 (D6 hsz hlow s s (nL _) hlt hu),fun i hi=>?_⟩
   have h1:=h.2 i (by rw [C7' ho hda];exact hi)
   rcases Nat.decEq i s with hne | rfl
   · rw [I8' ho hds hne] at h1
     refine wpOp_mono (fun a' w' k=>ih _ a' w' (by rw [Array.size_setIfInBounds];exact hsz) (by rw [getD_set_ne true hne];exact hu) k) h1
   · -- the last one: all others are listed
     obtain ⟨hun,o',ho',hw⟩:=mem_ready.1 hi
     obtain rfl:o'=o:=Option.some.inj (ho'.symm.trans ho)
     have hdone:Region.ready md ops (listed.setIfInBounds i true)=[]:=by
       rw [List.eq_nil_iff_forall_not_mem]
       intro j hj
       obtain ⟨hj0,x,hx,-⟩:=mem_ready.1 hj
       rcases Nat.decEq j i with hji | rfl
       · have hjlt:j<ops.size:=(gE.1 hx).1
         obtain ⟨e,he,hb,rfl⟩:=hall j hji hjlt
         have h2:=hw e he hb
         rw [getD_set_ne true (Ne.symm hji)] at hj0
         have h3:e.on<listed.size:=by omega
         simp only [Array.getD,h3,dif_pos] at h2 hj0
         rw [h2] at hj0
         cases hj0
       · have h3:j<listed.size:=by omega
         simp [h3] at hj0
     -- what the dummy leaves
     have hK:wpOp P ops Q i (Q .normal) a w:=by
       unfold wpOp at h1
       rw [Array.getElem?_setIfInBounds_self_of_lt hlt] at h1
       dsimp only at h1
       rw [if_pos (by simp [Region.wanted,hdg])] at h1
       rcases h1 with h1 | ⟨h1,-⟩
       · unfold Oper.wp at h1
         rw [hrun,Oper.upon_value,hd0] at h1
         have h1':wpAny P md (ops.setIfInBounds i d) (DP P ops Q i) fuel (listed.setIfInBounds i true) a w:=h1
         have hr:Region.ready md (ops.setIfInBounds i d) (listed.setIfInBounds i true)=[]:=by rw [C7' ho hda];exact hdone
         cases fuel with
         | zero=>exact h1'.2
         | succ f=>exact h1'.1 hr
       · exact absurd h1 (hask a w)
     exact wpOp_mono (fun a' w' k=>wpAny_done hdone k fuel) hK
def Cg' (o:Oper):Oper:={ o with op:=.move (.const (.bool false)),dst:=none,guard:=none }
theorem Fn' {P:Program} (o:Oper) (a:Act) (w:World):(execOp a.eval (Cg' o)).run P w=.ok (.value (.bool false)) w:=by
 simp [Cg',execOp,go_sem]
theorem Fo {P:Program} (o:Oper) (a:Act) (w:World):¬ (Cg' o).asks P a w:=by
 intro h
 have h1:=h.1
 simp [Cg',execOp,go_sem] at h1
 have h2:noRoomEvent∈(#[]:Array Event):=h1
 simp at h2
theorem Ci' {P:Program} {id s:Nat} {ops:Array Oper} {Q:Exit→Act→World→Prop} {o:Oper} {S:World→Prop} {a:Act} {w:World} (hm:P.follows .mixedOrders=true) (ho:ops[s]?=some o) (hd0:o.dst=none)
   (hl:IL .any ops s=true)
   (h:wpAnyH P .any (ops.setIfInBounds s (Cg' o)) (DP P ops Q s) S ops.size (Array.replicate ops.size false) a w.drew):(Code.region id ops true).wp P Q a w:=by
 have hlt:s<ops.size:=(gE.1 ho).1
 have hl':=fun i (hi:i<ops.size)=>List.all_eq_true.1 hl i (List.mem_range.2 hi)
 refine wp_region_any hm (Fn (d:=Cg' o) ho hd0.symm rfl rfl rfl (fun a w=>Fn' o a w) (fun a w=>Fo o a w) ?_ ?_ _ _ _ _ (by simp) (by simp [hlt]) (wpAny_of_held _ _ _ _ h))
 · intro i x hx e he hb
   have h1:=hl' i (gE.1 hx).1
   rw [hx] at h1
   simp only [Bool.and_eq_true] at h1
   have h2:=Array.all_eq_true_iff_forall_mem.1 h1.1 e he
   simpa [hb] using h2
 · intro j hj hjl
   have h1:=hl' j hjl
   rw [show ops[j]?=some ops[j] by simp [hjl],ho] at h1
   simp only [Bool.and_eq_true,Bool.or_eq_true,decide_eq_true_eq,hj,false_or] at h1
   obtain ⟨q,hq,h2⟩:=Array.any_eq_true.1 h1.2
   simp only [Bool.and_eq_true,decide_eq_true_eq] at h2
   exact ⟨_,Array.getElem_mem hq,h2.1,h2.2⟩
theorem CP' {P:Program} {ops:Array Oper} {Q:Exit→Act→World→Prop} {s:Nat} {o:Oper} {a:Act} {w:World} (ho:ops[s]?=some o) (hg:o.guard=none) (h:o.wp P a w (Q .normal) Q):DP P ops Q s .normal a w:=by
 show wpOp P ops Q s (Q .normal) a w
 unfold wpOp
 rw [ho]
 dsimp only
 rw [if_pos (by simp [Region.wanted,hg])]
 exact .inl h
end Go.Proofs.YtbigkkjnhcpgiaaGreatDoor.Rf
