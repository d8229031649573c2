/-
  Contracts of the functions that the law calls, for every input (JA Qd Qa).
-/
import Derived.Test.YtflopjfnppolgaaGreatDoorZ00
import Derived.Test.YtflopjfnppolgaaGreatDoorProg
import Derived.Below
import Derived.Deep.RegionHeld3
import Derived.Test.YtflopjfnppolgaaGreatDoorZ32
import Derived.Test.YtflopjfnppolgaaGreatDoorZ11
set_option linter.all false
set_option maxRecDepth 100000
set_option maxHeartbeats 40000000
namespace Go.Proofs.YtflopjfnppolgaaGreatDoor
open Lib (hid)
open Go.RowKit
structure Soft where
  i:Nat
  t:Nat
  res:(Nat→Value)→(Nat→Nat)→Value
structure Job where
  i:Nat
  t:Nat
  al:Bool
  dep:List Nat
  res:(Nat→Value)→(Nat→Nat)→Value
  F:(Nat→Value)→(Nat→Nat)→World→Prop
  sf:List Soft
def Job.ws (J:Job):List Soft:=⟨J.i,J.t,J.res⟩::J.sf
def W (js:List Job):List Soft:=js.flatMap Job.ws
def CC' {α:Type} (d:List Nat) (z:α) (f:Nat→α) (j:Nat):α:=if d.contains j then f j else z
def AJ' {α:Type} (f:Nat→α) (i:Nat) (v:α) (j:Nat):α:=if j=i then v else f j
def Ag' (r:Nat→Value) (b:Nat→Nat) (a:Act) (s:Soft):Act:=a.put (some s.t) (s.res r b)
def Ae (ws:List Soft) (r:Nat→Value) (b:Nat→Nat) (a:Act):Act:=ws.foldl (Ag' r b) a
def Br (p:Job→Prop):List Job→Prop
  | []=>True
  | J::l=>p J∧Br p l
theorem Br.get {p:Job→Prop}:∀ {l:List Job},Br p l→∀ J∈l,p J
 | J::l,h,K,hK=>by
   rcases List.mem_cons.1 hK with rfl | hK
   · exact h.1
   · exact Br.get h.2 K hK
theorem Br.of {p:Job→Prop}:∀ {l:List Job},(∀ J∈l,p J)→Br p l
 | [],_=>trivial
 | J::l,h=>⟨h J (List.mem_cons_self ..),Br.of fun K hK=>h K (List.mem_cons_of_mem _ hK)⟩
theorem Ct' {js:List Job} {s:Soft}:s∈W js↔∃ J∈js,s∈J.ws:=by unfold W;rw [List.mem_flatMap]
def AT (md:Region.Mode) (ops:Array Oper) (i:Nat):List Nat:=((ops[i]?).map fun o=>(o.after.toList.filter (Region.binds md)).map (·.on)).getD []
def DF' (md:Region.Mode) (ops:Array Oper) (js:List Job) (k:Nat):List Nat :=
  js.foldr (fun J c=>if J.ws.any (fun s=>c.contains s.i) then c++J.i::AT md ops J.i else c) (AT md ops k)
def chkO (md:Region.Mode) (ops:Array Oper) (l0:Array Bool) (n:Nat) (ws:List Soft) (s:Soft):Bool :=
  (match ops[s.i]? with
   | none=>false
   | some o=>o.dst==some s.t && !(o.looksAt ops).contains s.t && ws.all (fun s' => !(o.looksAt ops).contains s'.t || (AT md ops s.i).contains s'.i)) &&
  decide (s.t<n) && (l0[s.i]?==some false)
def Dg' (md:Region.Mode) (ops:Array Oper) (l0:Array Bool) (m:List Nat):List Nat→Array Bool→List Soft→Bool
  | _,_,[]=>true
  | pre,l,s::ss=>(AT md ops s.i).all (fun k=>l0.getD k false || pre.contains k || m.contains k) && (AT md ops s.i).any (fun k=>pre.contains k) &&
    Region.free md ops l s.i && Dg' md ops l0 m (s.i::pre) (l.setIfInBounds s.i true) ss
def Eh' (ks:List Nat) (l:Array Bool):Array Bool:=ks.foldl (fun l k=>l.setIfInBounds k true) l
theorem EC':∀ (ks:List Nat) (l:Array Bool),(Eh' ks l).size=l.size
 | [],_=>rfl
 | k::ks,l=>(EC' ks _).trans (by simp)
theorem ED (j:Nat):∀ (ks:List Nat) (l:Array Bool),(Eh' ks l).getD j true=true→j∈ks∨l.getD j true=true
 | [],_,h=>.inr h
 | k::ks,l,h=>by
   rcases ED j ks _ h with h | h
   · exact .inl (List.mem_cons_of_mem _ h)
   · rcases Decidable.em (j=k) with e | e
     · exact .inl (e ▸ List.mem_cons_self ..)
     · rw [getD_set_ne true (Ne.symm e)] at h
       exact .inr h
def ER' (md:Region.Mode) (ops:Array Oper) (l0:Array Bool) (js:List Job):List Nat→List Job→Bool
  | _,[]=>true
  | pre,J::l =>
    J.dep.contains J.i && (AT md ops J.i).all (fun k=>l0.getD k false || pre.contains k) &&
    J.dep.all (fun k=>k==J.i || js.any (fun J'=>J'.dep.contains k && J'.ws.any (fun s=>(AT md ops J.i).contains s.i))) &&
    Dg' md ops l0 (AT md ops J.i) [J.i] (Eh' (AT md ops J.i) (l0.setIfInBounds J.i true)) J.sf &&
    ER' md ops l0 js (J.ws.map (·.i)++pre) l
def DV':List Soft→Bool
  | []=>true
  | s::l=>l.all (fun s'=>s'.i != s.i && s'.t != s.t) && DV' l
def H3' (md:Region.Mode) (ops:Array Oper) (l0:Array Bool) (n:Nat) (js:List Job):Bool :=
  l0.size==ops.size && Region.noSelect ops && DV' (W js) && (W js).all (chkO md ops l0 n (W js)) && ER' md ops l0 js [] js &&
  (List.range ops.size).all (fun k=>l0.getD k true || (W js).any (fun s=>s.i==k) ||
    (AT md ops k).any (fun e => !l0.getD e false && !(W js).any (fun s=>s.i==e)) || js.all (fun J=>(DF' md ops js k).contains J.i))
theorem Dh (r:Nat→Value) (b:Nat→Nat):∀ (ws:List Soft) (a:Act),(Ae ws r b a).tmps.size=a.tmps.size∧(Ae ws r b a).defers=a.defers
 | [],_=>⟨rfl,rfl⟩
 | s::l,a=>by
   have h:=Dh r b l (Ag' r b a s)
   refine ⟨h.1.trans ?_,h.2⟩
   simp [Ag',Act.put]
theorem Dh' (r:Nat→Value) (b:Nat→Nat) (t:Nat):∀ (ws:List Soft) (a:Act),(∀ s∈ws,s.t≠t)→(Ae ws r b a).tmps[t]?=a.tmps[t]?
 | [],_,_=>rfl
 | s::l,a,h=>by
   rw [show Ae (s::l) r b a=Ae l r b (Ag' r b a s) from rfl,Dh' r b t l _ (fun K hK=>h K (List.mem_cons_of_mem _ hK))]
   simp [Ag',Act.put,Array.getElem?_setIfInBounds_ne (h s (List.mem_cons_self ..))]
theorem ED' (r:Nat→Value) (b:Nat→Nat):∀ (ws:List Soft) (a:Act),ws.Pairwise (fun s s'=>s'.i≠s.i∧s'.t≠s.t)→∀ s∈ws,s.t<a.tmps.size→(Ae ws r b a).tmps[s.t]?=some (s.res r b)
 | s'::l,a,hp,s,hs,ht=>by
   rw [show Ae (s'::l) r b a=Ae l r b (Ag' r b a s') from rfl]
   rw [List.pairwise_cons] at hp
   rcases List.mem_cons.1 hs with rfl | hs
   · rw [Dh' r b s.t l _ (fun K hK=>(hp.1 K hK).2)]
     simp [Ag',Act.put,ht]
   · exact ED' r b l _ hp.2 s hs (by simpa [Ag',Act.put] using ht)
theorem G7' {P:Program} {o:Oper} {a aF:Act} {u:World} {K K2:Act→World→Prop} {Q:Exit→Act→World→Prop} {R:Value→World→Prop} {t:Nat} (he:execOp a.eval o=execOp aF.eval o) (hd:o.dst=some t)
   (hK:∀ act u',K act u'→∃ v,act=aF.put (some t) v∧R v u') (ht:t<aF.tmps.size) (hk:∀ v u',R v u'→K2 (a.put (some t) v) u')
   (h:Oper.wp P o aF u K (fun _ _ _=>False)):Oper.wp P o a u K2 Q:=by
 have inj:∀ v v':Value,aF.put (some t) v=aF.put (some t) v'→v=v':=by
   intro v v' e
   have h1:(aF.put (some t) v).tmps[t]?=(aF.put (some t) v').tmps[t]?:=by rw [e]
   simpa [Act.put,ht] using h1
 have hv:∀ v u',K (aF.put (some t) v) u'→K2 (a.put (some t) v) u':=by
   intro v u' h
   obtain ⟨v',e,hR⟩:=hK _ _ h
   obtain rfl:=inj _ _ e
   exact hk _ _ hR
 unfold Oper.wp at *
 rw [he]
 generalize (execOp aF.eval o).run P u=r at *
 cases r with
 | ok n w' =>
   cases n <;> simp only [Oper.upon,hd] at h ⊢
   case value v=>exact hv _ _ h
   case skip=>exact hv _ _ h
   case defer d =>
     obtain ⟨v,e,_⟩:=hK _ _ h
     have h1:=congrArg Act.defers e
     simp [Act.put] at h1
   case enter f args =>
     refine Calls.mono h fun e w'' he=>?_
     cases e with
     | returned v=>exact hv _ _ he
     | panicked c=>exact he.elim
     | outgrown=>obtain ⟨_,_,he⟩:=he;exact he.elim
   case row row args=>exact Rows.mono h fun v w'' he=>hv _ _ he
 | halt x w'=>cases x <;> simp only [Oper.upon] at h
structure GoodJ (md:Region.Mode) (ops:Array Oper) (l0:Array Bool) (n:Nat) (js:List Job):Prop where
  size:l0.size=ops.size
  sel:Region.noSelect ops=true
  pw:(W js).Pairwise (fun s s'=>s'.i≠s.i∧s'.t≠s.t)
  op:∀ s∈W js,∃ o,ops[s.i]?=some o∧o.dst=some s.t∧s.t ∉ o.looksAt ops∧∀ s'∈W js,s'.t∈o.looksAt ops→s'.i∈AT md ops s.i
  lt:∀ s∈W js,s.t<n
  un:∀ s∈W js,l0[s.i]?=some false
  self:∀ J∈js,J.i∈J.dep
  deps:∀ J∈js,∀ k∈J.dep,k=J.i∨∃ J'∈js,k∈J'.dep∧∃ s∈J'.ws,s.i∈AT md ops J.i
  softs:∀ J∈js,Dg' md ops l0 (AT md ops J.i) [J.i] (Eh' (AT md ops J.i) (l0.setIfInBounds J.i true)) J.sf=true
  first:∀ d:Nat→Bool,(∀ J∈js,∀ s∈J.sf,d s.i=d J.i)→(∃ J∈js,d J.i=false)→∃ J∈js,d J.i=false∧∀ k∈AT md ops J.i,l0.getD k false=true∨d k=true∧∃ s∈W js,s.i=k
  others:∀ k,k<ops.size→l0.getD k true=true∨(∃ s∈W js,s.i=k)∨(∃ e∈AT md ops k,l0.getD e false=false∧∀ s∈W js,s.i≠e)∨∀ J∈js,J.i∈DF' md ops js k
theorem EE:∀ l:List Soft,DV' l=true→l.Pairwise (fun s s'=>s'.i≠s.i∧s'.t≠s.t)
 | [],_=>.nil
 | s::l,h=>by
   simp only [DV',Bool.and_eq_true] at h
   refine List.pairwise_cons.2 ⟨fun s' hs'=>?_,EE l h.2⟩
   have:=List.all_eq_true.1 h.1 s' hs'
   simpa using this
theorem DW {md:Region.Mode} {ops:Array Oper} {l0:Array Bool} {js:List Job}:∀ (l:List Job) (pre:List Nat),ER' md ops l0 js pre l=true →
   (∀ J∈l,J.i∈J.dep∧(∀ k∈J.dep,k=J.i∨∃ J'∈js,k∈J'.dep∧∃ s∈J'.ws,s.i∈AT md ops J.i)∧Dg' md ops l0 (AT md ops J.i) [J.i] (Eh' (AT md ops J.i) (l0.setIfInBounds J.i true)) J.sf=true) ∧
   (∀ d:Nat→Bool,(∀ J∈l,∀ s∈J.sf,d s.i=d J.i)→(∀ k∈pre,d k=true∧∃ s∈W js,s.i=k)→(∀ J∈l,J∈js)→(∃ J∈l,d J.i=false)→∃ J∈l,d J.i=false∧∀ k∈AT md ops J.i,l0.getD k false=true∨d k=true∧∃ s∈W js,s.i=k)
 | [],pre,_=>⟨fun _ h=>(by cases h),fun d _ _ _ ⟨_,h,_⟩=>(by cases h)⟩
 | J::l,pre,h=>by
   simp only [ER',Bool.and_eq_true] at h
   obtain ⟨⟨⟨⟨h4,h5⟩,h6⟩,h7⟩,h9⟩:=h
   obtain ⟨g1,g4⟩:=DW l _ h9
   refine ⟨?_,?_⟩
   · intro K hK
     rcases List.mem_cons.1 hK with rfl | hK
     · refine ⟨by simpa using h4,fun k hk=>?_,h7⟩
       have a:=List.all_eq_true.1 h6 k hk
       simp only [Bool.or_eq_true] at a
       rcases a with a | a
       · exact .inl (by simpa using a)
       · obtain ⟨J',hJ',a⟩:=List.any_eq_true.1 a
         simp only [Bool.and_eq_true] at a
         obtain ⟨s,hs,e⟩:=List.any_eq_true.1 a.2
         exact .inr ⟨J',hJ',by simpa using a.1,s,hs,by simpa using e⟩
     · exact g1 K hK
   · intro d hsf hp hl hex
     cases hd:d J.i with
     | false =>
       refine ⟨J,List.mem_cons_self ..,hd,fun k hk=>?_⟩
       have a:=List.all_eq_true.1 h5 k hk
       simp only [Bool.or_eq_true] at a
       rcases a with a | a
       · exact .inl a
       · exact .inr (hp k (by simpa using a))
     | true =>
       obtain ⟨K,hK,hKd⟩:=hex
       have hK':K∈l:=by
         rcases List.mem_cons.1 hK with rfl | h
         · rw [hd] at hKd;cases hKd
         · exact h
       obtain ⟨M,hM,h1,h2⟩:=g4 d (fun K hK=>hsf K (List.mem_cons_of_mem _ hK)) (fun k hk=>by
         rcases List.mem_append.1 hk with hk | hk
         · obtain ⟨s,hs,rfl⟩:=List.mem_map.1 hk
           refine ⟨?_,s,Ct'.2 ⟨J,hl J (List.mem_cons_self ..),hs⟩,rfl⟩
           rcases List.mem_cons.1 hs with rfl | hs
           · exact hd
           · exact (hsf J (List.mem_cons_self ..) s hs).trans hd
         · exact hp k hk) (fun K hK=>hl K (List.mem_cons_of_mem _ hK)) ⟨K,hK',hKd⟩
       exact ⟨M,List.mem_cons_of_mem _ hM,h1,h2⟩
theorem G8 {md:Region.Mode} {ops:Array Oper} {l0:Array Bool} {n:Nat} {js:List Job} (h:H3' md ops l0 n js=true):GoodJ md ops l0 n js:=by
 simp only [H3',Bool.and_eq_true] at h
 obtain ⟨⟨⟨⟨⟨h1,hs⟩,ha⟩,ho⟩,h2⟩,h3⟩:=h
 obtain ⟨g1,g4⟩:=DW js [] h2
 have hO:∀ s∈W js,(∃ o,ops[s.i]?=some o∧o.dst=some s.t∧s.t ∉ o.looksAt ops∧∀ s'∈W js,s'.t∈o.looksAt ops→s'.i∈AT md ops s.i)∧s.t<n∧l0[s.i]?=some false:=by
   intro s hs
   have h1:=List.all_eq_true.1 ho s hs
   simp only [chkO,Bool.and_eq_true] at h1
   obtain ⟨⟨h1,h2⟩,h3⟩:=h1
   refine ⟨?_,of_decide_eq_true h2,by simpa using h3⟩
   split at h1
   · cases h1
   · rename_i o ho
     simp only [Bool.and_eq_true] at h1
     obtain ⟨⟨a1,a3⟩,a4⟩:=h1
     refine ⟨o,ho,by simpa using a1,by simpa using a3,?_⟩
     intro J' hJ' ht
     have a5:=List.all_eq_true.1 a4 J' hJ'
     simp only [Bool.or_eq_true,Bool.not_eq_true'] at a5
     rcases a5 with a5 | a5
     · have:(o.looksAt ops).contains J'.t=true:=by simpa using ht
       rw [this] at a5
       cases a5
     · simpa using a5
 refine ⟨by simpa using h1,hs,EE _ ha,fun s hs=>(hO s hs).1,fun s hs=>(hO s hs).2.1,fun s hs=>(hO s hs).2.2,fun J hJ=>(g1 J hJ).1,fun J hJ=>(g1 J hJ).2.1,fun J hJ=>(g1 J hJ).2.2,fun d hsf hd=>g4 d hsf (fun k hk=>by cases hk) (fun _ h=>h) hd,?_⟩
 intro k hk
 have a:=List.all_eq_true.1 h3 k (List.mem_range.2 hk)
 simp only [Bool.or_eq_true] at a
 rcases a with ((a | a) | a) | a
 · exact .inl a
 · obtain ⟨J,hJ,a⟩:=List.any_eq_true.1 a
   exact .inr (.inl ⟨J,hJ,by simpa using a⟩)
 · obtain ⟨e,he,a⟩:=List.any_eq_true.1 a
   simp only [Bool.and_eq_true,Bool.not_eq_true'] at a
   refine .inr (.inr (.inl ⟨e,he,a.1,fun J hJ hE=>?_⟩))
   have:(W js).any (fun J=>J.i==e)=true:=List.any_eq_true.2 ⟨J,hJ,by simpa using hE⟩
   rw [this] at a
   cases a.2
 · exact .inr (.inr (.inr fun J hJ=>by simpa using List.all_eq_true.1 a J hJ))
def Af' (ws:List Soft) (l:Array Bool):Array Bool:=ws.foldl (fun l s=>l.setIfInBounds s.i true) l
theorem CH (k:Nat):∀ (ws:List Soft) (l:Array Bool),(∀ s∈ws,s.i≠k)→(Af' ws l)[k]?=l[k]?
 | [],_,_=>rfl
 | s::ws,l,h=>(CH k ws _ (fun K hK=>h K (List.mem_cons_of_mem _ hK))).trans (Array.getElem?_setIfInBounds_ne (h s (List.mem_cons_self ..)))
theorem Di:∀ (ws:List Soft) (l:Array Bool) (k:Nat),k<l.size→((∃ s∈ws,s.i=k)∨l[k]?=some true)→(Af' ws l)[k]?=some true
 | [],_,_,_,h=>by
   rcases h with ⟨_,h,_⟩ | h
   · cases h
   · exact h
 | s::ws,l,k,hk,h=>by
   refine Di ws _ k (by simpa using hk) ?_
   rcases Decidable.em (s.i=k) with e | e
   · exact .inr (by subst e;simp [hk])
   · rcases h with ⟨K,hK,hKe⟩ | h
     · rcases List.mem_cons.1 hK with rfl | hK
       · exact absurd hKe e
       · exact .inl ⟨K,hK,hKe⟩
     · exact .inr ((Array.getElem?_setIfInBounds_ne e).trans h)
def BL' (l:Array Bool):List Job→Nat
  | []=>0
  | J::js=>(if l[J.i]?=some true then 0 else J.ws.length)+BL' l js
theorem EE' (l l':Array Bool):∀ js:List Job,(∀ K∈js,l'[K.i]?=l[K.i]?)→BL' l' js=BL' l js
 | [],_=>rfl
 | J::js,h=>by
   simp only [BL']
   rw [EE' l l' js (fun K hK=>h K (List.mem_cons_of_mem _ hK)),h J (List.mem_cons_self ..)]
theorem EF (l l':Array Bool) (J:Job) (hn:l[J.i]?≠some true) (hy:l'[J.i]?=some true):∀ js:List Job,js.Pairwise (fun J K=>K.i≠J.i)→J∈js→(∀ K∈js,K.i≠J.i→l'[K.i]?=l[K.i]?)→BL' l' js+J.ws.length=BL' l js
 | K::js,hp,hJ,hs=>by
   rw [List.pairwise_cons] at hp
   simp only [BL']
   rcases List.mem_cons.1 hJ with rfl | hJ'
   · rw [EE' l l' js (fun M hM=>hs M (List.mem_cons_of_mem _ hM) (hp.1 M hM)),if_neg hn,if_pos hy]
     omega
   · have e:K.i≠J.i:=Ne.symm (hp.1 J hJ')
     have:=EF l l' J hn hy js hp.2 hJ' (fun M hM=>hs M (List.mem_cons_of_mem _ hM))
     rw [hs K (List.mem_cons_self ..) e]
     omega
theorem Fj (l:Array Bool):∀ js:List Job,(∀ J∈js,l[J.i]?=some false)→BL' l js=(W js).length
 | [],_=>rfl
 | J::js,h=>by
   simp only [BL']
   rw [Fj l js (fun K hK=>h K (List.mem_cons_of_mem _ hK)),h J (List.mem_cons_self ..)]
   simp [W]
theorem EF' (l:Array Bool):∀ js:List Job,BL' l js=0→∀ J∈js,l[J.i]?=some true
 | K::js,h,J,hJ=>by
   simp only [BL'] at h
   rcases List.mem_cons.1 hJ with rfl | hJ
   · rcases Decidable.em (l[J.i]?=some true) with e | e
     · exact e
     · rw [if_neg e] at h
       simp [Job.ws] at h
   · exact EF' l js (by omega) J hJ
theorem Di' {ops:Array Oper} {o:Oper} {t1 t2:Array Value} (h:∀ t∈o.looksAt ops,t1[t]?=t2[t]?):Region.wanted o (yielded ops t1)=Region.wanted o (yielded ops t2):=by
 unfold Region.wanted
 cases hg:o.guard with
 | none=>rfl
 | some gw =>
   obtain ⟨g,want⟩:=gw
   have hy:yielded ops t1 g=yielded ops t2 g:=by
     unfold yielded
     cases ht:(ops[g]?).bind (·.dst) with
     | none=>rfl
     | some t =>
       have:t1[t]?=t2[t]?:=h t (by simp [Oper.looksAt,hg,ht])
       simp [this]
   simp only [hy]
theorem DW' {ops:Array Oper} {o:Oper} {a1 a2:Act} (hs:∀ cs b,o.op≠.select cs b) (h:∀ t∈o.looksAt ops,a1.tmps[t]?=a2.tmps[t]?):execOp a1.eval o=execOp a2.eval o :=
 execOp_congr o hs fun x hx=>by
   cases x with
   | tmp t =>
     have:a1.tmps[t]?=a2.tmps[t]?:=h t (List.mem_append_left _ (List.mem_filterMap.2 ⟨.tmp t,by simpa using hx,rfl⟩))
     simp [Act.eval,Array.getD_eq_getD_getElem?,this]
   | _=>rfl
structure SlotJ (ws:List Soft) (a0:Act) (l:Array Bool) (a:Act) (r:Nat→Value) (b:Nat→Nat):Prop where
  defs:a.defers=a0.defers
  tsz:a.tmps.size=a0.tmps.size
  slot:∀ s∈ws,l[s.i]?=some true→a.tmps[s.t]?=some (s.res r b)
  slotn:∀ t,(∀ s∈ws,s.t=t→l[s.i]?≠some true)→a.tmps[t]?=a0.tmps[t]?
structure InvJ (md:Region.Mode) (ops:Array Oper) (js:List Job) (l0:Array Bool) (a0:Act) (wd:World) (l:Array Bool) (a:Act) (u:World) (r:Nat→Value) (b:Nat→Nat):Prop where
  size:l.size=l0.size
  other:∀ k,(∀ s∈W js,s.i≠k)→l[k]?=l0[k]?
  isb:∀ J∈js,(∀ s∈J.ws,l[s.i]?=some true)∨(∀ s∈J.ws,l[s.i]?=some false)
  closed:∀ J∈js,l[J.i]?=some true→∀ k∈AT md ops J.i,l[k]?=some true
  deps:∀ J∈js,l[J.i]?=some true→∀ k∈J.dep,l[k]?=some true
  sl:SlotJ (W js) a0 l a r b
  bel:Below wd.heap.size wd u
  fact:∀ J∈js,l[J.i]?=some true→J.F r b u
  blk:∀ J∈js,l[J.i]?=some true→J.al=true→wd.heap.size≤b J.i∧b J.i<u.heap.size
  diff:∀ J∈js,∀ K∈js,l[J.i]?=some true→l[K.i]?=some true→J.al=true→K.al=true→J.i≠K.i→b J.i≠b K.i
def ES' (P:Program) (ops:Array Oper) (ws:List Soft) (js:List Job) (a0:Act) (wd:World) (J:Job):Prop :=
  ∀ (r:Nat→Value) (b:Nat→Nat) (u:World),Below wd.heap.size wd u→Br (fun K=>(J.dep.contains K.i && K.i != J.i)=true→K.F r b u) js →
    ∀ o,ops[J.i]?=some o→∀ K:Act→World→Prop,
      Shut (∀ v b' u' act,Below u.heap.size u u'→(J.al=true→b'=u.heap.size∧u.heap.size<u'.heap.size)→J.F (AJ' r J.i v) (AJ' b J.i b') u'→act=(Ae ws r b a0).put (some J.t) (J.res (AJ' r J.i v) (AJ' b J.i b'))→K act u') →
      if Region.wanted o (yielded ops (Ae ws r b a0).tmps)=true then Oper.wp P o (Ae ws r b a0) u K (fun _ _ _=>False) else K ((Ae ws r b a0).put (some J.t) undef) u
def InsJ (J:Job):Prop:=∀ r b,(J.ws.map fun s=>s.res (CC' J.dep undef r) (CC' J.dep 0 b))=(J.ws.map fun s=>s.res r b)∧J.F (CC' J.dep undef r) (CC' J.dep 0 b)=J.F r b
def Gp (J:Job):Prop:=∀ r b u u',J.F r b u→Below u.heap.size u u'→J.F r b u'
def DX (P:Program) (ops:Array Oper) (ws:List Soft) (a0:Act) (s:Soft):Prop:=∀ r b o,ops[s.i]?=some o→Region.wanted o (yielded ops (Ae ws r b a0).tmps)=true∧∀ w,(execOp (Ae ws r b a0).eval o).run P w=.ok (.value (s.res r b)) w
def DG (p:Soft→Prop):List Soft→Prop
  | []=>True
  | s::l=>p s∧DG p l
theorem DG.get {p:Soft→Prop}:∀ {l:List Soft},DG p l→∀ s∈l,p s
 | s::l,h,K,hK=>by
   rcases List.mem_cons.1 hK with rfl | hK
   · exact h.1
   · exact DG.get h.2 K hK
theorem EG {α:Type} {d:List Nat} {z:α} {f g:Nat→α} (h:∀ k∈d,f k=g k):CC' d z f=CC' d z g:=by
 funext j
 unfold CC'
 split
 · rename_i hj;exact h j (by simpa using hj)
 · rfl
theorem Cu {l:Array Bool} {k:Nat} (h:l.getD k false=true):l[k]?=some true:=by
 rw [Array.getD_eq_getD_getElem?] at h
 cases e:l[k]? with
 | none=>rw [e] at h;cases h
 | some x=>rw [e] at h;exact congrArg some h
theorem Bz' {l:Array Bool} {k:Nat} {d:Bool} (h:l[k]?=some true):l.getD k d=true:=by rw [Array.getD_eq_getD_getElem?,h];rfl
theorem Gp' {md:Region.Mode} {ops:Array Oper} {l:Array Bool} {i:Nat} (h:i∈Region.ready md ops l):∀ k∈AT md ops i,l[k]?=some true:=by
 obtain ⟨-,o,ho,hall⟩:=mem_ready.1 h
 intro k hk
 simp only [AT,ho,Option.map_some,Option.getD_some,List.mem_map,List.mem_filter] at hk
 obtain ⟨e,⟨he,hb⟩,rfl⟩:=hk
 exact Cu (hall e (by simpa using he) hb)
theorem EG' {md:Region.Mode} {ops:Array Oper} {l:Array Bool} {i:Nat} {o:Oper} (ho:ops[i]?=some o) (hl:l[i]?=some false) (h:∀ k∈AT md ops i,l[k]?=some true):i∈Region.ready md ops l:=by
 refine mem_ready.2 ⟨by rw [Array.getD_eq_getD_getElem?,hl];rfl,o,ho,fun e he hb=>?_⟩
 exact Bz' (h e.on (by simp only [AT,ho,Option.map_some,Option.getD_some,List.mem_map,List.mem_filter];exact ⟨e,⟨by simpa using he,hb⟩,rfl⟩))
theorem EH {md:Region.Mode} {ops:Array Oper} {l:Array Bool} {k:Nat}:∀ js:List Job,(∀ J∈js,(∃ s∈J.ws,l[s.i]?=some true)→l[J.i]?=some true∧∀ k∈AT md ops J.i,l[k]?=some true)→(∀ j∈AT md ops k,l[j]?=some true)→∀ j∈DF' md ops js k,l[j]?=some true
 | [],_,h,j,hj=>h j hj
 | J::js,hc,h,j,hj=>by
   have ih:=EH js (fun K hK=>hc K (List.mem_cons_of_mem _ hK)) h
   have e:DF' md ops (J::js) k=if J.ws.any (fun s=>(DF' md ops js k).contains s.i) then DF' md ops js k++J.i::AT md ops J.i else DF' md ops js k:=rfl
   rw [e] at hj
   split at hj
   · rename_i hJ
     obtain ⟨s,hs,h1⟩:=List.any_eq_true.1 hJ
     have h2:=hc J (List.mem_cons_self ..) ⟨s,hs,ih s.i (by simpa using h1)⟩
     rcases List.mem_append.1 hj with hj | hj
     · exact ih j hj
     · rcases List.mem_cons.1 hj with rfl | hj
       · exact h2.1
       · exact h2.2 j hj
   · exact ih j hj
theorem G8' {md:Region.Mode} {ops:Array Oper} {l l':Array Bool} {i:Nat} (h:Region.free md ops l i=true) (hl:∀ k,l.getD k true=true→l'.getD k true=true):Region.free md ops l' i=true:=by
 unfold Region.free at *
 split at h
 · cases h
 · rename_i oi ho
   rw [List.all_eq_true] at h ⊢
   intro j hj
   have h1:=h j hj
   simp only [Bool.or_eq_true] at h1 ⊢
   rcases h1 with (h1 | h1) | h1
   · exact .inl (.inl h1)
   · exact .inl (.inr (hl j h1))
   · exact .inr h1
def alI (js:List Job) (i:Nat):Prop:=js.any (fun J=>J.i==i && J.al)=true
section
variable {P:Program} {md:Region.Mode} {ops:Array Oper} {Q:Exit→Act→World→Prop} {S:World→Prop} {base:Nat} {l0:Array Bool} {a0:Act} {wd:World} {js:List Job}
theorem Ei:∀ {ws:List Soft},ws.Pairwise (fun s s'=>s'.i≠s.i∧s'.t≠s.t)→∀ s∈ws,∀ s'∈ws,(s.i=s'.i∨s.t=s'.t)→s=s'
 | m::ws,h,s,hs,s',hs',e=>by
   rw [List.pairwise_cons] at h
   rcases List.mem_cons.1 hs with rfl | hJ'
   · rcases List.mem_cons.1 hs' with rfl | hK'
     · rfl
     · have:=h.1 s' hK'
       rcases e with e | e
       · exact absurd e.symm this.1
       · exact absurd e.symm this.2
   · rcases List.mem_cons.1 hs' with rfl | hK'
     · have:=h.1 s hJ'
       rcases e with e | e
       · exact absurd e this.1
       · exact absurd e this.2
     · exact Ei h.2 s hJ' s' hK' e
theorem Ik':∀ {js:List Job},(W js).Pairwise (fun s s'=>s'.i≠s.i∧s'.t≠s.t)→js.Pairwise (fun J K=>K.i≠J.i)
 | [],_=>.nil
 | J::js,h=>by
   have e:W (J::js)=J.ws++W js:=by simp [W]
   rw [e,List.pairwise_append] at h
   refine List.pairwise_cons.2 ⟨fun K hK=>?_,Ik' h.2.1⟩
   exact (h.2.2 ⟨J.i,J.t,J.res⟩ (List.mem_cons_self ..) ⟨K.i,K.t,K.res⟩ (Ct'.2 ⟨K,hK,List.mem_cons_self ..⟩)).1
theorem Ei':∀ {js:List Job},js.Pairwise (fun J K=>K.i≠J.i)→∀ J∈js,∀ K∈js,J.i=K.i→J=K
 | M::js,h,J,hJ,K,hK,e=>by
   rw [List.pairwise_cons] at h
   rcases List.mem_cons.1 hJ with rfl | hJ'
   · rcases List.mem_cons.1 hK with rfl | hK'
     · rfl
     · exact absurd e.symm (h.1 K hK')
   · rcases List.mem_cons.1 hK with rfl | hK'
     · exact absurd e (h.1 J hJ')
     · exact Ei' h.2 J hJ' K hK' e
theorem SlotJ.same {ws:List Soft} {l:Array Bool} {a:Act} {r:Nat→Value} {b:Nat→Nat} (hv:SlotJ ws a0 l a r b) (hp:ws.Pairwise (fun s s'=>s'.i≠s.i∧s'.t≠s.t)) (hl:∀ s∈ws,s.t<a0.tmps.size) {t:Nat} (h:∀ s∈ws,s.t=t→l[s.i]?=some true):a.tmps[t]?=(Ae ws r b a0).tmps[t]?:=by
 rcases Decidable.em (∃ s∈ws,s.t=t) with ⟨J,hJ,rfl⟩ | e
 · rw [hv.slot J hJ (h J hJ rfl),ED' r b ws a0 hp J hJ (hl J hJ)]
 · rw [hv.slotn t (fun J hJ e'=>absurd ⟨J,hJ,e'⟩ e),Dh' r b t ws a0 (fun J hJ e'=>e ⟨J,hJ,e'⟩)]
theorem SlotJ.put {ws:List Soft} {l:Array Bool} {a:Act} {r:Nat→Value} {b:Nat→Nat} (hv:SlotJ ws a0 l a r b) (hp:ws.Pairwise (fun s s'=>s'.i≠s.i∧s'.t≠s.t)) (hl:∀ s∈ws,s.t<a0.tmps.size) {s:Soft} (hs:s∈ws) (hi:s.i<l.size) :
   SlotJ ws a0 (l.setIfInBounds s.i true) (a.put (some s.t) (s.res r b)) r b:=by
 refine ⟨hv.defs,by simpa [Act.put] using hv.tsz,?_,?_⟩
 · intro s' hs' h
   rcases Decidable.em (s'.i=s.i) with e | e
   · obtain rfl:=Ei hp s' hs' s hs (.inl e)
     have:=hl s' hs'
     rw [←hv.tsz] at this
     simp [Act.put,this]
   · rw [Array.getElem?_setIfInBounds_ne (Ne.symm e)] at h
     have hnt:s.t≠s'.t:=fun e'=>e (congrArg Soft.i (Ei hp s' hs' s hs (.inr e'.symm)))
     rw [←hv.slot s' hs' h]
     simp [Act.put,Array.getElem?_setIfInBounds_ne hnt]
 · intro t h
   have hnt:s.t≠t:=fun e=>h s hs e (by simp [hi])
   rw [←hv.slotn t (fun s' hs' e h'=>h s' hs' e (by
     rcases Decidable.em (s'.i=s.i) with e2 | e2
     · rw [e2];simp [hi]
     · rw [Array.getElem?_setIfInBounds_ne (Ne.symm e2)];exact h'))]
   simp [Act.put,Array.getElem?_setIfInBounds_ne hnt]
theorem Fj' {r:Nat→Value} {b:Nat→Nat} {u:World} {m:List Nat} {k:Nat} (hg:GoodJ md ops l0 a0.tmps.size js) (hQ:∀ c a t v w,Q (.panic c) (Act.put a (some t) v) w→Q (.panic c) a w) (hSu:S u) (hsf:∀ s∈W js,(∃ J∈js,s∈J.sf)→DX P ops (W js) a0 s) :
   ∀ (ss:List Soft) (pre:List Nat) (lc l:Array Bool) (a:Act),(∀ s∈ss,s∈W js∧∃ J∈js,s∈J.sf)→Dg' md ops l0 m pre lc ss=true→ss.Pairwise (fun s s'=>s'.i≠s.i)→l.size=ops.size→(∀ k,l0.getD k false=true∨k∈pre∨k∈m→l[k]?=some true)→(∀ k,lc.getD k true=true→l.getD k true=true)→lc.size=l.size→(∀ s∈ss,l[s.i]?=some false) →
     SlotJ (W js) a0 l a r b→(∀ a',SlotJ (W js) a0 (Af' ss l) a' r b→wpAnyH P md ops Q S k (Af' ss l) a' u)→wpAnyH P md ops Q S (ss.length+k) l a u
 | [],_,_,l,a,_,_,_,_,_,_,_,_,hv,he=>by rw [show ([]:List Soft).length+k=k by simp];exact he a hv
 | s::ss,pre,lc,l,a,hm,hc,hp,hsz,hl,hlc,hlz,hf,hv,he=>by
   simp only [Dg',Bool.and_eq_true] at hc
   obtain ⟨⟨⟨h1,-⟩,h3⟩,h4⟩:=hc
   obtain ⟨hsW,hsJ⟩:=hm s (List.mem_cons_self ..)
   obtain ⟨o,ho,hd,hself,hlook⟩:=hg.op s hsW
   have hil:s.i<l.size:=by rw [hsz];exact (gE.1 ho).1
   have hon:∀ k∈AT md ops s.i,l[k]?=some true:=fun k hk=>by
     have a:=List.all_eq_true.1 h1 k hk
     simp only [Bool.or_eq_true] at a
     rcases a with (a | a) | a
     · exact hl k (.inl a)
     · exact hl k (.inr (.inl (by simpa using a)))
     · exact hl k (.inr (.inr (by simpa using a)))
   have hr:=EG' ho (hf s (List.mem_cons_self ..)) hon
   have hsel:=Region.noSelect_spec hg.sel
   have hsame:∀ t∈o.looksAt ops,a.tmps[t]?=(Ae (W js) r b a0).tmps[t]?:=fun t ht=>hv.same hg.pw hg.lt (fun s' hs' e=>hon s'.i (hlook s' hs' (e ▸ ht)))
   obtain ⟨q1,q2⟩:=hsf s hsW hsJ r b o ho
   have hy:YieldsIf P ops S o (s.res r b) a:=.inl ⟨by rw [Di' hsame];exact q1,fun w _=>by rw [DW' (fun cs b=>hsel s.i o cs b ho) hsame];exact q2 w⟩
   rw [List.pairwise_cons] at hp
   rw [show (s::ss).length+k=(ss.length+k)+1 by simp;omega]
   refine wpAnyH_first ho hsel (fun c a w h=>hQ c a s.t _ w (by rw [hd] at h;exact h)) _ l a u (fun j oj hj hne hun hno=>Region.free_spec ho (G8' h3 hlc) j oj hj hne hun hno) hr hy hSu ?_
   rw [hd]
   refine Fj' hg hQ hSu hsf ss (s.i::pre) (lc.setIfInBounds s.i true) (l.setIfInBounds s.i true) _ (fun s' hs'=>hm s' (List.mem_cons_of_mem _ hs')) h4 hp.2 (by simpa using hsz) ?_ ?_ (by simpa using hlz) ?_ (hv.put hg.pw hg.lt hsW hil) he
   · intro k hk
     rcases Decidable.em (k=s.i) with e | e
     · rw [e];simp [hil]
     · rw [Array.getElem?_setIfInBounds_ne (Ne.symm e)]
       refine hl k ?_
       rcases hk with h | h | h
       · exact .inl h
       · rcases List.mem_cons.1 h with h | h
         · exact absurd h e
         · exact .inr (.inl h)
       · exact .inr (.inr h)
   · intro k hk
     rcases Decidable.em (k=s.i) with e | e
     · rw [e];exact Bz' (by simp [hil])
     · rw [getD_set_ne true (Ne.symm e)] at hk ⊢
       exact hlc k hk
   · intro s' hs'
     rw [Array.getElem?_setIfInBounds_ne (Ne.symm (hp.1 s' hs'))]
     exact hf s' (List.mem_cons_of_mem _ hs')
theorem EH':∀ (ws:List Soft) (l:Array Bool),(Af' ws l).size=l.size
 | [],_=>rfl
 | s::ws,l=>(EH' ws _).trans (by simp)
theorem IF (hg:GoodJ md ops l0 a0.tmps.size js) (hS:∀ u,Below wd.heap.size wd u→S u) (hQ:∀ c a t v w,Q (.panic c) (Act.put a (some t) v) w→Q (.panic c) a w) (hi:Br InsJ js) (hk:Br Gp js) (hs:Br (ES' P ops (W js) js a0 wd) js)
   (hsf:Br (fun J=>DG (DX P ops (W js) a0) J.sf) js)
   (he:∀ r b u,Below wd.heap.size wd u→Br (fun J=>J.F r b u∧(J.al=true→wd.heap.size≤b J.i)) js→(∀ i j,i≠j→alI js i→alI js j→b i≠b j)→wpAnyH P md ops Q S base (Af' (W js) l0) (Ae (W js) r b a0) u) :
   ∀ m n,n≤m→∀ l a u r b,InvJ md ops js l0 a0 wd l a u r b→BL' l js=n→wpAnyH P md ops Q S (n+base) l a u:=by
 have hpi:=Ik' hg.pw
 have hJW:∀ J∈js,∀ s∈J.ws,s∈W js:=fun J hJ s hs=>Ct'.2 ⟨J,hJ,hs⟩
 have hmain:∀ J:Job,(⟨J.i,J.t,J.res⟩:Soft)∈J.ws:=fun J=>List.mem_cons_self ..
 have hsoft:∀ s∈W js,(∃ J∈js,s∈J.sf)→DX P ops (W js) a0 s:=by
   rintro s - ⟨J,hJ,hs⟩
   exact DG.get (hsf.get J hJ) s hs
 have hown:∀ J∈js,∀ s∈J.ws,∀ K∈js,∀ s'∈K.ws,s.i=s'.i→J=K:=by
   intro J hJ s hs K hK s' hs' e
   -- indices of the writers are apart,so the jobs are one
   have:∀ js:List Job,(W js).Pairwise (fun s s'=>s'.i≠s.i∧s'.t≠s.t)→J∈js→K∈js→J=K:=by
     intro js
     induction js with
     | nil=>intro _ h;cases h
     | cons M js ih =>
       intro hp h1 h2
       have e1:W (M::js)=M.ws++W js:=by simp [W]
       rw [e1,List.pairwise_append] at hp
       rcases List.mem_cons.1 h1 with h1' | h1'
       · rcases List.mem_cons.1 h2 with h2' | h2'
         · rw [h1',h2']
         · exact absurd e.symm (hp.2.2 s (h1' ▸ hs) s' (Ct'.2 ⟨K,h2',hs'⟩)).1
       · rcases List.mem_cons.1 h2 with h2' | h2'
         · exact absurd e (hp.2.2 s' (h2' ▸ hs') s (Ct'.2 ⟨J,h1',hs⟩)).1
         · exact ih hp.2.1 h1' h2'
   exact this js hg.pw hJ hK
 intro m
 induction m with
 | zero =>
   intro n hn0 l a u r b hv hn
   obtain rfl:n=0:=by omega
   have hd:=EF' l js hn
   have hdW:∀ s∈W js,l[s.i]?=some true:=by
     intro s hs
     obtain ⟨J,hJ,hs⟩:=Ct'.1 hs
     rcases hv.isb J hJ with h | h
     · exact h s hs
     · have:=h _ (hmain J)
       rw [hd J hJ] at this
       cases this
   have hl:l=Af' (W js) l0:=by
     refine Array.ext_getElem? (fun k=>?_)
     rcases Decidable.em (∃ s∈W js,s.i=k) with ⟨s,hs,rfl⟩ | e
     · have hlt:s.i<l0.size:=(gE.1 (hg.un s hs)).1
       rw [hdW s hs,Di (W js) l0 s.i hlt (.inl ⟨s,hs,rfl⟩)]
     · rw [hv.other k (fun J hJ e'=>e ⟨J,hJ,e'⟩),CH k (W js) l0 (fun J hJ e'=>e ⟨J,hJ,e'⟩)]
   have ha:a=Ae (W js) r b a0:=by
     have h1:a.tmps=(Ae (W js) r b a0).tmps:=Array.ext_getElem? (fun t=>hv.sl.same hg.pw hg.lt (fun s hs _=>hdW s hs))
     have h2:a.defers=(Ae (W js) r b a0).defers:=hv.sl.defs.trans (Dh r b (W js) a0).2.symm
     cases a;cases hf:Ae (W js) r b a0
     rw [hf] at h1 h2
     simp only at h1 h2
     rw [h1,h2]
   rw [Nat.zero_add,hl,ha]
   refine he r b u hv.bel (Br.of fun J hJ=>⟨hv.fact J hJ (hd J hJ),fun h=>(hv.blk J hJ (hd J hJ) h).1⟩) ?_
   intro i j hij h1 h2
   obtain ⟨J,hJ,e1⟩:=List.any_eq_true.1 h1
   obtain ⟨K,hK,e2⟩:=List.any_eq_true.1 h2
   simp only [Bool.and_eq_true,beq_iff_eq] at e1 e2
   obtain ⟨rfl,e1⟩:=e1
   obtain ⟨rfl,e2⟩:=e2
   exact hv.diff J hJ K hK (hd J hJ) (hd K hK) e1 e2 hij
 | succ m ih =>
   intro n hn1 l a u r b hv hn
   rcases Nat.lt_or_ge n (m+1) with hlt | hge
   · exact ih n (by omega) l a u r b hv hn
   have hun:∃ J∈js,l[J.i]?=some false:=by
     rcases Decidable.em (∃ J∈js,l[J.i]?=some false) with h | h
     · exact h
     · have:BL' l js=0:=by
         have:∀ M:List Job,(∀ J∈M,l[J.i]?=some true)→BL' l M=0:=by
           intro M
           induction M with
           | nil=>intro _;rfl
           | cons K M ihM=>intro hM;simp only [BL'];rw [ihM (fun J hJ=>hM J (List.mem_cons_of_mem _ hJ)),if_pos (hM K (List.mem_cons_self ..))]
         exact this js (fun J hJ=>by
           rcases hv.isb J hJ with h' | h'
           · exact h' _ (hmain J)
           · exact absurd ⟨J,hJ,h' _ (hmain J)⟩ h)
       omega
   obtain ⟨n',rfl⟩:∃ n',n=n'+1:=⟨n - 1,by omega⟩
   have hdone:∀ J∈js,(∃ s∈J.ws,l[s.i]?=some true)→l[J.i]?=some true:=by
     rintro J hJ ⟨s,hs,h⟩
     rcases hv.isb J hJ with h' | h'
     · exact h' _ (hmain J)
     · have:=h' s hs
       rw [h] at this
       cases this
   rw [show n'+1+base=(n'+base)+1 by omega]
   refine ⟨fun hnil=>?_,fun i hi'=>?_⟩
   · obtain ⟨J0,hJ0,hd0⟩:=hun
     have hsame:∀ J∈js,∀ s∈J.sf,l.getD s.i false=l.getD J.i false:=by
       intro J hJ s hs
       rcases hv.isb J hJ with h | h
       · rw [Bz' (h s (List.mem_cons_of_mem _ hs)),Bz' (h _ (hmain J))]
       · rw [Array.getD_eq_getD_getElem?,Array.getD_eq_getD_getElem?,h s (List.mem_cons_of_mem _ hs),h _ (hmain J)]
     obtain ⟨J,hJ,hd,hon⟩:=hg.first (fun k=>l.getD k false) hsame ⟨J0,hJ0,by simp [Array.getD_eq_getD_getElem?,hd0]⟩
     obtain ⟨o,ho,-⟩:=hg.op _ (hJW J hJ _ (hmain J))
     have hr:J.i∈Region.ready md ops l:=by
       refine EG' ho ?_ ?_
       · rcases hv.isb J hJ with e | e
         · rw [Bz' (e _ (hmain J))] at hd
           cases hd
         · exact e _ (hmain J)
       · intro k hk'
         rcases hon k hk' with h | ⟨h,-⟩
         · have h0:=Cu h
           have:∀ s∈W js,s.i≠k:=fun M hM e=>by
             have:=hg.un M hM
             rw [e,h0] at this
             cases this
           rw [hv.other k this];exact h0
         · exact Cu h
     rw [hnil] at hr
     cases hr
   · have hon:=Gp' hi'
     obtain ⟨hiu,o,ho,-⟩:=mem_ready.1 hi'
     have hisz:i<ops.size:=(gE.1 ho).1
     have hil:i<l.size:=by rw [hv.size,hg.size];exact hisz
     have hif:l[i]?=some false:=by
       rw [Array.getD_eq_getD_getElem?] at hiu
       cases e:l[i]? with
       | none=>rw [e] at hiu;cases hiu
       | some x=>rw [e] at hiu;exact congrArg some hiu
     -- it writes for a job
     obtain ⟨s,hsW,rfl⟩:∃ s∈W js,s.i=i:=by
       rcases hg.others i hisz with h | h | ⟨e,he',h1,h2⟩ | h
       · rcases Decidable.em (∃ s∈W js,s.i=i) with h' | h'
         · exact h'
         · exfalso
           have:=hv.other i (fun J hJ e=>h' ⟨J,hJ,e⟩)
           rw [hif] at this
           rw [Array.getD_eq_getD_getElem?,←this] at h
           cases h
       · exact h
       · exfalso
         have:=hv.other e h2
         rw [hon e he'] at this
         rw [Array.getD_eq_getD_getElem?,←this] at h1
         cases h1
       · exfalso
         obtain ⟨J0,hJ0,hd0⟩:=hun
         have:=EH js (fun J hJ hd=>⟨hdone J hJ hd,hv.closed J hJ (hdone J hJ hd)⟩) hon J0.i (h J0 hJ0)
         rw [hd0] at this
         cases this
     obtain ⟨J,hJ,hsJ⟩:=Ct'.1 hsW
     have hJf:∀ s∈J.ws,l[s.i]?=some false:=by
       rcases hv.isb J hJ with h | h
       · have:=h s hsJ
         rw [hif] at this
         cases this
       · exact h
     -- it is the job's own operation: what is reckoned waits for it
     obtain rfl:s=⟨J.i,J.t,J.res⟩:=by
       rcases List.mem_cons.1 hsJ with h | h
       · exact h
       · exfalso
         have:∀ (ss:List Soft) (pre:List Nat) (lc:Array Bool),Dg' md ops l0 (AT md ops J.i) pre lc ss=true→(∀ s∈ss,l[s.i]?=some false)→(∀ k∈pre,l[k]?=some false)→s∈ss→False:=by
           intro ss
           induction ss with
           | nil=>intro _ _ _ _ _ h;cases h
           | cons s' ss ihs =>
             intro pre lc hc h1 h2 h3
             simp only [Dg',Bool.and_eq_true] at hc
             obtain ⟨⟨⟨-,c2⟩,-⟩,c4⟩:=hc
             rcases List.mem_cons.1 h3 with rfl | h3
             · obtain ⟨k,hk',hp⟩:=List.any_eq_true.1 c2
               have:=hon k hk'
               rw [h2 k (by simpa using hp)] at this
               cases this
             · exact ihs (s'.i::pre) _ c4 (fun s hs=>h1 s (List.mem_cons_of_mem _ hs)) (fun k hk'=>by
                 rcases List.mem_cons.1 hk' with rfl | hk'
                 · exact h1 s' (List.mem_cons_self ..)
                 · exact h2 k hk') h3
         exact this J.sf [J.i] _ (hg.softs J hJ) (fun s hs=>hJf s (List.mem_cons_of_mem _ hs)) (fun k hk'=>by
           obtain rfl:=List.mem_singleton.1 hk'
           exact hJf _ (hmain J)) h
     obtain ⟨o',ho',hdst,hself,hlooks⟩:=hg.op _ hsW
     obtain rfl:o'=o:=by rw [ho] at ho';exact (Option.some.inj ho').symm
     have hsel:=Region.noSelect_spec hg.sel
     have hdep:∀ k∈J.dep,k≠J.i→l[k]?=some true:=by
       intro k hk' hne
       rcases hg.deps J hJ k hk' with h | ⟨J',hJ',h2,s,hs,h1⟩
       · exact absurd h hne
       · exact hv.deps J' hJ' (hdone J' hJ' ⟨s,hs,hon s.i h1⟩) k h2
     have hsame:∀ t∈o'.looksAt ops,a.tmps[t]?=(Ae (W js) r b a0).tmps[t]?:=fun t ht=>hv.sl.same hg.pw hg.lt (fun s' hs' e=>hon s'.i (hlooks s' hs' (e ▸ ht)))
     have hE:=DW' (fun cs b=>hsel _ o' cs b ho) hsame
     have hW:=Di' hsame
     have hst:=hs.get J hJ r b u hv.bel (Br.of fun K hK h=>hv.fact K hK (by
       simp only [Bool.and_eq_true,bne_iff_ne,ne_eq] at h
       exact hdep K.i (by simpa using h.1) h.2)) o' ho
     -- behind it
     have hnext:∀ v b' u',Below u.heap.size u u'→(J.al=true→b'=u.heap.size∧u.heap.size<u'.heap.size)→J.F (AJ' r J.i v) (AJ' b J.i b') u' →
         S u'∧wpAnyH P md ops Q S (n'+base) (l.setIfInBounds J.i true) (a.put (some J.t) (J.res (AJ' r J.i v) (AJ' b J.i b'))) u':=by
       intro v b' u' hB hAl hF
       have hB2:Below wd.heap.size wd u':=hv.bel.trans (hB.mono hv.bel.size)
       have hlet:∀ K∈js,l[K.i]?=some true→(∀ s∈K.ws,s.res (AJ' r J.i v) (AJ' b J.i b')=s.res r b)∧K.F (AJ' r J.i v) (AJ' b J.i b')=K.F r b:=by
         intro K hK hd
         have hne:∀ k∈K.dep,k≠J.i:=fun k hk' e=>by
           have:=hv.deps K hK hd k hk'
           rw [e,hJf _ (hmain J)] at this
           cases this
         have e1:CC' K.dep undef (AJ' r J.i v)=CC' K.dep undef r:=EG fun k hk'=>if_neg (hne k hk')
         have e2:CC' K.dep 0 (AJ' b J.i b')=CC' K.dep 0 b:=EG fun k hk'=>if_neg (hne k hk')
         have h1:=hi.get K hK (AJ' r J.i v) (AJ' b J.i b')
         have h2:=hi.get K hK r b
         rw [e1,e2] at h1
         refine ⟨fun s hs=>?_,h1.2.symm.trans h2.2⟩
         have h3:=h1.1.symm.trans h2.1
         exact List.map_inj_left.1 h3 s hs
       have hSl:SlotJ (W js) a0 l a (AJ' r J.i v) (AJ' b J.i b'):=by
         refine ⟨hv.sl.defs,hv.sl.tsz,fun s hs h=>?_,hv.sl.slotn⟩
         obtain ⟨K,hK,hsK⟩:=Ct'.1 hs
         rw [(hlet K hK (hdone K hK ⟨s,hsK,h⟩)).1 s hsK]
         exact hv.sl.slot s hs h
       have hSl2:=hSl.put hg.pw hg.lt (s:=⟨J.i,J.t,J.res⟩) hsW hil
       refine ⟨hS u' hB2,?_⟩
       -- the listed behind
       have hfin:∀ k,(Af' J.ws l)[k]?=(if ∃ s∈J.ws,s.i=k then some true else l[k]?):=by
         intro k
         split
         · rename_i h
           obtain ⟨s,hs,rfl⟩:=h
           refine Di J.ws l s.i ?_ (.inl ⟨s,hs,rfl⟩)
           exact (gE.1 (hJf s hs)).1
         · rename_i h
           exact CH k J.ws l (fun s hs e=>h ⟨s,hs,e⟩)
       have hup:∀ k:Nat,l[k]?=some true→(Af' J.ws l)[k]?=some true:=by
         intro k h
         rw [hfin k];split
         · rfl
         · exact h
       have hcnt:BL' (Af' J.ws l) js+J.ws.length=n'+1:=by
         rw [←hn]
         refine EF l _ J (by rw [hJf _ (hmain J)];simp) (by rw [hfin];exact if_pos ⟨_,hmain J,rfl⟩) js hpi hJ (fun K hK hne=>?_)
         rw [hfin]
         refine if_neg ?_
         rintro ⟨s,hs,e⟩
         exact hne (congrArg Job.i (hown K hK _ (hmain K) J hJ s hs e.symm))
       have hlen:J.ws.length=J.sf.length+1:=rfl
       rw [show n'+base=J.sf.length+(BL' (Af' J.ws l) js+base) by omega]
       have hfe:Af' J.sf (l.setIfInBounds J.i true)=Af' J.ws l:=rfl
       have hpw:J.ws.Pairwise (fun s s'=>s'.i≠s.i):=by
         have:∀ js:List Job,(W js).Pairwise (fun s s'=>s'.i≠s.i∧s'.t≠s.t)→J∈js→J.ws.Pairwise (fun s s'=>s'.i≠s.i):=by
           intro js
           induction js with
           | nil=>intro _ h;cases h
           | cons M js ihM =>
             intro hp h
             have e1:W (M::js)=M.ws++W js:=by simp [W]
             rw [e1,List.pairwise_append] at hp
             rcases List.mem_cons.1 h with h' | h'
             · rw [h'];exact hp.1.imp fun h=>h.1
             · exact ihM hp.2.1 h'
         exact this js hg.pw hJ
       have hpc:=List.pairwise_cons.1 hpw
       refine Fj' hg hQ (hS u' hB2) hsoft J.sf [J.i] (Eh' (AT md ops J.i) (l0.setIfInBounds J.i true)) (l.setIfInBounds J.i true) _ (fun s hs=>⟨hJW J hJ s (List.mem_cons_of_mem _ hs),J,hJ,hs⟩) (hg.softs J hJ) hpc.2 (by simpa using hv.size.trans hg.size) ?_ ?_ (by rw [EC'];simpa using hv.size.symm) ?_ hSl2 ?_
       · intro k hk'
         rcases Decidable.em (k=J.i) with e | e
         · rw [e];simp [hil]
         · rw [Array.getElem?_setIfInBounds_ne (Ne.symm e)]
           rcases hk' with h | h | h
           · have h0:=Cu h
             have:∀ s∈W js,s.i≠k:=fun M hM e=>by
               have:=hg.un M hM
               rw [e,h0] at this
               cases this
             rw [hv.other k this];exact h0
           · exact absurd (List.mem_singleton.1 h) e
           · exact hon k h
       · intro k hk'
         rcases Decidable.em (k=J.i) with e | e
         · rw [e];exact Bz' (by simp [hil])
         · rw [getD_set_ne true (Ne.symm e)]
           rcases ED k _ _ hk' with hk' | hk'
           · exact Bz' (hon k hk')
           rw [getD_set_ne true (Ne.symm e)] at hk'
           rcases Decidable.em (∃ s∈W js,s.i=k) with ⟨s,hs,rfl⟩ | e'
           · rw [Array.getD_eq_getD_getElem?,hg.un s hs] at hk'
             cases hk'
           · rw [Array.getD_eq_getD_getElem?,hv.other k (fun s hs e=>e' ⟨s,hs,e⟩),←Array.getD_eq_getD_getElem?]
             exact hk'
       · intro s' hs'
         rw [Array.getElem?_setIfInBounds_ne (Ne.symm (hpc.1 s' hs'))]
         exact hJf s' (List.mem_cons_of_mem _ hs')
       · rw [hfe]
         intro a' hSl3
         refine ih _ (by omega) _ a' u' (AJ' r J.i v) (AJ' b J.i b') ?_ rfl
         have hcase:∀ K∈js,(Af' J.ws l)[K.i]?=some true→K=J∨(K.i≠J.i∧l[K.i]?=some true):=by
           intro K hK h
           rcases Decidable.em (K.i=J.i) with e | e
           · exact .inl (Ei' hpi K hK J hJ e)
           · refine .inr ⟨e,?_⟩
             rw [hfin,if_neg] at h
             · exact h
             · rintro ⟨s,hs,e'⟩
               exact e (congrArg Job.i (hown K hK _ (hmain K) J hJ s hs e'.symm))
         refine ⟨(EH' J.ws l).trans hv.size,?_,?_,?_,?_,hSl3,hB2,?_,?_,?_⟩
         · intro k h
           rw [CH k J.ws l (fun s hs=>h s (hJW J hJ s hs))]
           exact hv.other k h
         · intro K hK
           rcases Decidable.em (K.i=J.i) with e0 | e0
           · obtain rfl:=Ei' hpi K hK J hJ e0
             refine .inl fun s hs=>?_
             rw [hfin,if_pos]
             exact ⟨s,hs,rfl⟩
           · have hne:∀ s∈K.ws,¬ ∃ s'∈J.ws,s'.i=s.i:=fun s hs ⟨s',hs',e'⟩=>e0 (congrArg Job.i (hown K hK s hs J hJ s' hs' e'.symm))
             rcases hv.isb K hK with h | h
             · exact .inl fun s hs=>hup _ (h s hs)
             · refine .inr fun s hs=>?_
               rw [hfin,if_neg (hne s hs)]
               exact h s hs
         · intro K hK h k hk'
           rcases hcase K hK h with rfl | ⟨_,h⟩
           · exact hup k (hon k hk')
           · exact hup k (hv.closed K hK h k hk')
         · intro K hK h k hk'
           rcases hcase K hK h with rfl | ⟨_,h⟩
           · rcases Decidable.em (k=K.i) with e | e
             · rw [e];exact h
             · exact hup k (hdep k hk' e)
           · exact hup k (hv.deps K hK h k hk')
         · intro K hK h
           rcases hcase K hK h with rfl | ⟨_,h⟩
           · exact hF
           · rw [(hlet K hK h).2]
             exact hk.get K hK r b u u' (hv.fact K hK h) hB
         · intro K hK h hal
           rcases hcase K hK h with rfl | ⟨hne,h⟩
           · have:=hAl hal
             have e:AJ' b K.i b' K.i=b':=if_pos rfl
             rw [e,this.1]
             exact ⟨hv.bel.size,this.2⟩
           · have e:AJ' b J.i b' K.i=b K.i:=if_neg hne
             rw [e]
             have:=hv.blk K hK h hal
             exact ⟨this.1,ltl this.2 hB.size⟩
         · intro K hK M hM h1 h2 a1 a2 hne
           rcases hcase K hK h1 with rfl | ⟨hn1,h1⟩
           · rcases hcase M hM h2 with rfl | ⟨hn2,h2⟩
             · exact absurd rfl hne
             · rw [show AJ' b K.i b' K.i=b' from if_pos rfl,show AJ' b K.i b' M.i=b M.i from if_neg hn2,(hAl a1).1]
               exact Ne.symm (Nat.ne_of_lt (hv.blk M hM h2 a2).2)
           · rcases hcase M hM h2 with e | ⟨hn2,h2⟩
             · rw [e,show AJ' b J.i b' J.i=b' from if_pos rfl,show AJ' b J.i b' K.i=b K.i from if_neg hn1,(hAl (e ▸ a2)).1]
               exact Nat.ne_of_lt (hv.blk K hK h1 a1).2
             · rw [show AJ' b J.i b' K.i=b K.i from if_neg hn1,show AJ' b J.i b' M.i=b M.i from if_neg hn2]
               exact hv.diff K hK M hM h1 h2 a1 a2 hne
     let R:Value→World→Prop:=fun v u'=>∃ v0 b0,v=J.res (AJ' r J.i v0) (AJ' b J.i b0)∧Below u.heap.size u u'∧(J.al=true→b0=u.heap.size∧u.heap.size<u'.heap.size)∧J.F (AJ' r J.i v0) (AJ' b J.i b0) u'
     have hR:∀ v u',R v u'→S u'∧wpAnyH P md ops Q S (n'+base) (l.setIfInBounds J.i true) (a.put (some J.t) v) u':=by
       rintro v u' ⟨v0,b0,rfl,h1,h2,h3⟩
       exact hnext v0 b0 u' h1 h2 h3
     have hst':=hst (fun act u'=>∃ v,act=(Ae (W js) r b a0).put (some J.t) v∧R v u') (fun v b' u' act h1 h2 h3 h4=>⟨_,h4,v,b',rfl,h1,h2,h3⟩)
     have hlt:J.t<(Ae (W js) r b a0).tmps.size:=by rw [(Dh r b (W js) a0).1];exact hg.lt _ hsW
     refine wpOp_step ho (fun K' hK'=>?_)
     rw [hW]
     split
     · rename_i hw
       rw [if_pos hw] at hst'
       refine G7' hE hdst (fun act u' h=>h) hlt (fun v u' h=>?_) hst'
       exact hK' _ _ (hR v u' h)
     · rename_i hw
       rw [if_neg hw] at hst'
       obtain ⟨v,e,h⟩:=hst'
       have:undef=v:=by
         have h1:((Ae (W js) r b a0).put (some J.t) undef).tmps[J.t]?=((Ae (W js) r b a0).put (some J.t) v).tmps[J.t]?:=by rw [e]
         simpa [Act.put,hlt] using h1
       subst this
       rw [hdst]
       exact hK' _ _ (hR _ _ h)
theorem AK (js:List Job) (hc:H3' md ops l0 a0.tmps.size js=true) (hS:∀ u,Below wd.heap.size wd u→S u) (hi:Br InsJ js) (hk:Br Gp js) (hsf:Br (fun J=>DG (DX P ops (W js) a0) J.sf) js) (hs:Br (ES' P ops (W js) js a0 wd) js)
   (he:∀ r b u,Below wd.heap.size wd u→Br (fun J=>J.F r b u∧(J.al=true→wd.heap.size≤b J.i)) js→(∀ i j,i≠j→alI js i→alI js j→b i≠b j)→wpAnyH P md ops Q S base (Af' (W js) l0) (Ae (W js) r b a0) u)
   (hQ:∀ c a t v w,Q (.panic c) (Act.put a (some t) v) w→Q (.panic c) a w:=by exact fun _ _ _ _ _ h=>h) :
   wpAnyH P md ops Q S ((W js).length+base) l0 a0 wd:=by
 have hg:=G8 hc
 have hJW:∀ J∈js,∀ s∈J.ws,l0[s.i]?=some false:=fun J hJ s hs=>hg.un s (Ct'.2 ⟨J,hJ,hs⟩)
 have hno:∀ J∈js,l0[J.i]?≠some true:=fun J hJ e=>by rw [hJW J hJ ⟨J.i,J.t,J.res⟩ (List.mem_cons_self ..)] at e;cases e
 have hnW:∀ s∈W js,l0[s.i]?≠some true:=fun s hs e=>by rw [hg.un s hs] at e;cases e
 exact IF hg hS hQ hi hk hs hsf he (W js).length (W js).length (nL _) l0 a0 wd (fun _=>undef) (fun _=>0) ⟨rfl,fun _ _=>rfl,fun J hJ=>.inr (hJW J hJ),fun J hJ e=>absurd e (hno J hJ),fun J hJ e=>absurd e (hno J hJ),⟨rfl,rfl,fun s hs e=>absurd e (hnW s hs),fun _ _=>rfl⟩,Below.refl _ _,fun J hJ e=>absurd e (hno J hJ),fun J hJ e=>absurd e (hno J hJ),fun J hJ _ _ e=>absurd e (hno J hJ)⟩ (Fj l0 js (fun J hJ=>hJW J hJ ⟨J.i,J.t,J.res⟩ (List.mem_cons_self ..)))
def jc (i t:Nat) (d:List Nat) (F:Value→World→Prop) (sf:List Soft:=[]):Job:=⟨i,t,false,i::d,fun r _=>r i,fun r _ u=>F (r i) u,sf⟩
def jt (i t:Nat) (d:List Nat) (e:Value) (F:Value→World→Prop) (sf:List Soft:=[]):Job:=⟨i,t,false,i::d,fun r _=>.tuple #[r i,e],fun r _ u=>F (r i) u,sf⟩
def jf (i t:Nat) (d:List Nat) (e:Value) (sf:List Soft:=[]):Job:=⟨i,t,false,i::d,fun _ _=>e,fun _ _ _=>True,sf⟩
def ja (i t:Nat) (o:Obj):Job:=⟨i,t,true,[i],fun _ b=>.pointer (some ⟨b i,0,none⟩),fun _ b u=>u.heap[b i]?=some o,[]⟩
def jl (i t n:Nat) (d:List Nat) (F:Nat→World→Prop):Job:=⟨i,t,true,i::d,fun _ b=>.slice (some ⟨b i,0,none⟩) n n,fun _ b u=>F (b i) u,[]⟩
theorem B4' (i t:Nat) (o:Obj):Gp (ja i t o):=fun _ b u u' (h:u.heap[b i]?=some o) hb=>(hb.block _ (gE.1 h).1).trans h
theorem Aj' {ws:List Soft} {l:List Job} {J:Job} {o:Oper} (ho:ops[J.i]?=some o:=by simp only [List.getElem?_toArray,List.getElem?_cons_zero,List.getElem?_cons_succ];rfl)
   (h:∀ (r:Nat→Value) (b:Nat→Nat) (u:World),Below wd.heap.size wd u→Br (fun K=>(J.dep.contains K.i && K.i != J.i)=true→K.F r b u) l→∀ K:Act→World→Prop,
     Shut (∀ v b' u' act,Below u.heap.size u u'→(J.al=true→b'=u.heap.size∧u.heap.size<u'.heap.size)→J.F (AJ' r J.i v) (AJ' b J.i b') u'→act=(Ae ws r b a0).put (some J.t) (J.res (AJ' r J.i v) (AJ' b J.i b'))→K act u') →
     if Region.wanted o (yielded ops (Ae ws r b a0).tmps)=true then Oper.wp P o (Ae ws r b a0) u K (fun _ _ _=>False) else K ((Ae ws r b a0).put (some J.t) undef) u):ES' P ops ws l a0 wd J:=fun r b u hB hd o' ho'=>by
 obtain rfl:=Option.some.inj (ho.symm.trans ho')
 exact h r b u hB hd
theorem Cl' {ws:List Soft} {l:List Job} {i t:Nat} {x:Obj} {o:Oper} (ho:ops[i]?=some o:=by simp only [List.getElem?_toArray,List.getElem?_cons_zero,List.getElem?_cons_succ];rfl)
   (h:∀ (r:Nat→Value) (b:Nat→Nat) (u:World),Region.wanted o (yielded ops (Ae ws r b a0).tmps)=true∧(execOp (Ae ws r b a0).eval o).run P u=.ok (.value (.pointer (some ⟨u.heap.size,0,none⟩))) (u.alloc x)) (hd:o.dst=some t:=by rfl):ES' P ops ws l a0 wd (ja i t x):=fun r b u hB hd' o' ho' K hK=>by
 obtain rfl:=Option.some.inj (ho.symm.trans ho')
 obtain ⟨h1,h2⟩:=h r b u
 rw [if_pos h1]
 unfold Oper.wp
 rw [h2]
 simp only [Oper.upon,hd]
 have hn:(u.alloc x).heap[u.heap.size]?=some x:=by show (u.heap.push x)[u.heap.size]?=_;simp
 have e:AJ' b i u.heap.size i=u.heap.size:=if_pos rfl
 refine hK.out undef u.heap.size (u.alloc x) _ ((Below.refl _ _).alloc (nL _) x) (fun _=>⟨rfl,by show _<(u.heap.push x).size;simp⟩) ?_ ?_
 · show (u.alloc x).heap[AJ' b i u.heap.size i]?=some x
   rw [e];exact hn
 · show _=Act.put (Ae ws r b a0) (some t) (.pointer (some ⟨AJ' b i u.heap.size i,0,none⟩))
   rw [e]
theorem AD' {ws:List Soft} {i t:Nat} {g:(Nat→Value)→(Nat→Nat)→Value} {o:Oper} (ho:ops[i]?=some o:=by simp only [List.getElem?_toArray,List.getElem?_cons_zero,List.getElem?_cons_succ];rfl)
   (h:∀ (r:Nat→Value) (b:Nat→Nat),Region.wanted o (yielded ops (Ae ws r b a0).tmps)=true∧∀ w,(execOp (Ae ws r b a0).eval o).run P w=.ok (.value (g r b)) w):DX P ops ws a0 ⟨i,t,g⟩:=fun r b o' ho'=>by
 obtain rfl:=Option.some.inj (ho.symm.trans ho')
 exact h r b
end
end Go.Proofs.YtflopjfnppolgaaGreatDoor
namespace Go.Proofs.YtflopjfnppolgaaGreatDoor.Rf
open Lib (hid)
open Go.RowKit
open Rx
open Vx (Aa' Ai Ai')
def Cu' (I:World→Value→Rat→Prop) (T:TypeId) (B:Nat) (w:World) (v:Value) (l:List Rat):Prop:=A5' I T B w v l∨(v=.slice none 0 0∧l=[])
theorem Cu'.keep {I:World→Value→Rat→Prop} {T:TypeId} {B:Nat} {w w':World} {v:Value} {l:List Rat} (h:Cu' I T B w v l) (hb:Below w.heap.size w w') (hI:∀ v q,I w v q→I w' v q):Cu' I T B w' v l:=h.imp (fun h=>h.keep hb hI) id
theorem Cu'.own {I:World→Value→Rat→Prop} {T:TypeId} {B:Nat} {w:World} {v:Value} {l:List Rat} (h:Cu' I T B w v l):∀ g,v.ownBlock=some g→B≤g∧g<w.heap.size:=by
 rcases h with h | ⟨rfl,-⟩
 · exact h.own
 · intro g hg;cases hg
theorem Cu'.parts {I:World→Value→Rat→Prop} {T:TypeId} {B:Nat} {w:World} {v:Value} {l:List Rat} (h:Cu' I T B w v l):∃ xs,w.ownsRow B T 3 v l.length xs∧Ca w v∧Cn' (I w) xs l:=by
 rcases h with ⟨g,cap,xs,hv,h1,h2,h3⟩ | ⟨rfl,rfl⟩
 · exact ⟨xs,h1,h2,h3⟩
 · exact ⟨[],⟨rfl,Or.inl ⟨rfl,rfl⟩⟩,fun g hg=>by (cases hg),by unfold Cn';trivial⟩
theorem H4' {P:Program} {o:Oper} {a:Act} {w:World} {K:Act→World→Prop} {Q:Exit→Act→World→Prop} {s x:Operand} {t:TypeId}
   (ho:o.op=.call { callee:=.builtin .append,args:=#[s,x],argTypes:=#[t,t] }) {e:TypeId} {bytes:Nat} (ht:P.underlying t=some (.slice e)) (hi:(P.info? e).map (fun i=>(i.zero,i.size,i.bytes))=some (some (.agg #[.bool false,.slice none 0 0,.slice none 0 0]),3,bytes))
   {I:World→Value→Rat→Prop} (hI:∀ w w',A9 w w'→∀ v q,I w v q→I w' v q) {B:Nat} {v:Value} {l:List Rat} {q:Rat} (hs:a.eval s=v) (hG:Cu' I e B w v l) {k c n1 c1 n2 c2:Nat} {A1 A2:Option Addr} {s1:Bool} (hx:a.eval x=.slice (some ⟨k,0,none⟩) 1 c)
   (hrow:w.heap[k]?=some (.cells #[.bool s1,.slice A1 n1 c1,.slice A2 n2 c2] e (0,0))) (hq:I w (.agg #[.bool s1,.slice A1 n1 c1,.slice A2 n2 c2]) q) (hn:(l.length+1)*bytes≤140737488355328) (hm:l.length+1≤maxLen) (hB:B≤w.heap.size)
   (h:∀ v' w',A5' I e B w' v' (l++[q])→A9 w w'→w.grownBy w' v.ownBlock→(∀ g,v'.ownBlock=some g→v.ownBlock=some g∨g=w.heap.size)→K (a.put o.dst v') w'):o.wp P a w K Q:=by
 obtain ⟨i,hi1,hi2,hi3,hi4⟩:=info_parts hi
 obtain ⟨xs,hown,hni,hels⟩:=hG.parts
 obtain ⟨r0,r1,r2⟩:=Ad' hrow
 refine Dg ho ht hi1 hi2 hi3 hi4 rfl (by decide) hs hown hx (news:=[.bool s1,.slice A1 n1 c1,.slice A2 n2 c2]) rfl ?_ ?_ (by decide) hm hn hB hni ?_ ?_ ?_
 · intro j u hj
   match j with
   | 0=>obtain rfl:=Option.some.inj hj;exact r0
   | 1=>obtain rfl:=Option.some.inj hj;exact r1
   | 2=>obtain rfl:=Option.some.inj hj;exact r2
   | j+3=>simp at hj
 · intro u hu
   simp only [List.mem_cons,List.not_mem_nil,or_false] at hu
   rcases hu with rfl | rfl | rfl <;> rfl
 · intro u hu k n
   simp only [List.mem_cons,List.not_mem_nil,or_false] at hu
   rcases hu with rfl | rfl | rfl <;> simp
 · intro u hu k n
   simp only [Value.cells,List.mem_cons,List.not_mem_nil,or_false] at hu
   rcases hu with rfl | rfl | rfl <;> simp
 · intro g cap w' h1 h2 h3 h4 h5
   have LV:=DT' hni h2
   refine h _ w' (A5'.push hels (fun v q hv=>hI _ _ LV v q hv) (hI _ _ LV _ _ hq) h1 h5) LV h2 ?_
   intro g' hg'
   obtain rfl:g=g':=Option.some.inj hg'
   exact h3
theorem DX' (w:World) (o1 o2 o3 o4:Obj):Below w.heap.size w ((((w.alloc o1).alloc o2).alloc o3).alloc o4)∧((((w.alloc o1).alloc o2).alloc o3).alloc o4).heap[w.heap.size]?=some o1∧((((w.alloc o1).alloc o2).alloc o3).alloc o4).heap[w.heap.size+1]?=some o2∧((((w.alloc o1).alloc o2).alloc o3).alloc o4).heap[w.heap.size+2]?=some o3∧((((w.alloc o1).alloc o2).alloc o3).alloc o4).heap[w.heap.size+3]?=some o4:=by
 obtain ⟨b0,g1,g2,g3⟩:=Ii w o1 o2 o3
 obtain ⟨u,hu⟩:=eX ((((w.alloc o1).alloc o2).alloc o3))
 have hs:u.heap.size=w.heap.size+3:=by rw [hu,World.size_alloc,World.size_alloc,World.size_alloc]
 rw [←hu] at b0 g1 g2 g3 ⊢
 have b4:=Am' u o4
 have g4:=hA_ u o4
 rw [hs] at g4
 exact ⟨Ae' b0 b4,Ab' g1 b4,Ab' g2 b4,Ab' g3 b4,g4⟩
end Go.Proofs.YtflopjfnppolgaaGreatDoor.Rf
namespace Go.Proofs.YtflopjfnppolgaaGreatDoor
open Lib (hid)
open Go.RowKit
open Vx
theorem Gq' {w:World} {vx vy:Value} {x y:Rat} (hx:Ac' w vx x) (hy:Ac' w vy y) (hs:Aa' x≤34359738368) (ht:Aa' y≤34359738368) :
   Calls Tryz.prog 109 #[vx,vy] w (Az' w (x / y)):=by
 obtain ⟨A1,c1,A2,c2,rfl,-,-⟩:=id hx.opened
 obtain ⟨A3,c3,A4,c4,rfl,-,-⟩:=id hy.opened
 obtain ⟨wB,hwB⟩:=eX (((w.alloc (.cells #[.bool (decide (x.num<0)),.slice A1 (len x.num.natAbs) c1,.slice A2 (len (below x.den)) c2] 35)).alloc (.cells #[.bool (decide (y.num<0)),.slice A3 (len y.num.natAbs) c3,.slice A4 (len (below y.den)) c4] 35)).alloc (.cells #[.bool false,.slice none 0 0,.slice none 0 0] 35))
 obtain ⟨b0,g0,g1,g2⟩:=AC hwB
 obtain ⟨k0,k1,k2⟩:=Ad' g0
 obtain ⟨k3,k4,k5⟩:=Ad' g1
 have HK0:=hid (Aq'.start (T:=35) rfl (A1' _ _ _ _ _ _ _) g2)
 have HB0:=hid b0
 have hlt1:w.heap.size<w.heap.size+2:=by omega
 have hlt2:w.heap.size+1<w.heap.size+2:=by omega
 clear g0 g1 g2 b0
 obtain ⟨q,hq⟩:=eX (x / y:Rat)
 obtain ⟨cc,hcc⟩:∃ cc:Int,cc=if y=0 then 10 else 0:=⟨_,rfl⟩
 have HX:=hid (DO' (hx.keep HB0.out) (hy.keep HB0.out) hs ht)
 rw [←hq,←hcc] at HX
 rw [←hq]
 clear hq hcc hx hy hs ht
 go_enter Tryz.func109,Tryz.ntmps109
 go_upto_region 1 with fail
 rw [←hwB]
 clear hwB
 go_wp2_with fail
 refine (HX.out).mono ?_
 rintro e w2 ⟨v2,rfl,hv2,b2⟩
 obtain ⟨B1,e1,B2,e2,rfl,-,-⟩:=hv2.opened
 have HK2:=hid (HK0.out.call b2)
 go_upto_region 2 with fail
 obtain ⟨w3,hw3⟩:=eX (w2.alloc (.cells #[.bool (decide (q.num<0)),.slice B1 (len q.num.natAbs) e1,.slice B2 (len (below q.den)) e2] 35))
 have b3:Below w2.heap.size w2 w3:=by rw [hw3];exact (Below.refl _ _).alloc (nL _) _
 have g3:w3.heap[w2.heap.size]?=some (.cells #[.bool (decide (q.num<0)),.slice B1 (len q.num.natAbs) e1,.slice B2 (len (below q.den)) e2] 35 (0,0)):=by rw [hw3];exact hA_ w2 _
 obtain ⟨p0,p1,p2⟩:=Ad' g3
 have hk:=(HK2.out.call b3).held (An'.refl _)
 have hv3:=hv2.keep b3
 rw [←hw3]
 clear hw3 g3 b3 b2 HX
 obtain ⟨-,c0,c1',c2',f0,f1,f2,-⟩:=id hk
 have HD:=hk.done (q:=q) (b:=decide (q.num<0)) (A1:=B1) (n1:=len q.num.natAbs) (c1:=e1) (A2:=B2) (n2:=len (below q.den)) (c2:=e2) (hv3)
 obtain ⟨d1,d2,d3⟩:=HD
 obtain ⟨r0,r1,r2⟩:=Ad' d3
 have HD:=hid (And.intro d1 d2)
 clear d1 d2 d3
 go_wp2_with fail
 refine bP (v:=.agg #[.bool (decide (q.num<0)),.slice (B1) (len q.num.natAbs) (e1),.slice (B2) (len (below q.den)) (e2)]) ?_ rfl ⟨_,rfl,HD.out.1,Ak' HB0.out (by omega) HD.out.2⟩
 simp [results,Tryz.results109,go_sem,r0,r1,r2]
end Go.Proofs.YtflopjfnppolgaaGreatDoor
