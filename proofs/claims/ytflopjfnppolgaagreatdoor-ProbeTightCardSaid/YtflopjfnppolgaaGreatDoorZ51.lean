/-
  The statement of the claim: the law returns true for every input, and each argument reads afterwards as it read before. Condition: the listed variables of the library (a table of math/bits, two tables of unicode/utf8) read at the start as the text of the program lays them; the card ties this to that text.
-/
import Derived.Test.YtflopjfnppolgaaGreatDoorZ00
import Derived.Test.YtflopjfnppolgaaGreatDoorZ50
import Derived.Test.YtflopjfnppolgaaGreatDoorZ49
import Derived.Deep.SlicePairs
import Derived.Lib.SmallJoins
import Derived.Carry
set_option linter.all false
set_option maxRecDepth 100000
set_option maxHeartbeats 40000000
namespace Go.Proofs.YtflopjfnppolgaaGreatDoor
open Lib (hid)
open Go.ChangeShapes Go.WideShapes Go.ChangeAt Go.RowKit
open Go.ChangeMaps (open_string shut_string)
theorem DH':laidOutB Tryz.prog=true:=by kernel_rfl
theorem FU' {P:Program} {w:World} {r:Reach} {b0:Nat} {t u:TypeId} {cs:Array Value} {ts:List TypeId} {i:Nat} {v:Value} {k:IntKind} (h:Go.Row.okWide P w r b0 t cs) (hts:P.cellTypes P.depth t=some ts) (hi:cs[i]?=some v) (hu:ts[i%ts.length]?=some u) (hk:P.underlying u=some (.int k)):∃ n,v=.int k n∧k.has n:=by
 obtain ⟨ts',h1,-,h2⟩:=h
 obtain rfl:ts=ts':=Option.some.inj (hts.symm.trans h1)
 obtain ⟨u',h3,h4⟩:=h2 i v hi
 obtain rfl:u=u':=Option.some.inj (hu.symm.trans h3)
 unfold Cell.okWide at h4
 rw [hk] at h4
 have h5:Cell.ok P w r b0 u v:=by cases v <;> first | exact h4 | exact h4.elim
 unfold Cell.ok at h5
 rw [hk] at h5
 cases v with
 | int k' n=>obtain ⟨rfl,h6⟩:=h5;exact ⟨n,rfl,h6⟩
 | _=>exact h5.elim
theorem CD {P:Program} {w:World} {r:Reach} {b0:Nat} {t u:TypeId} {cs:Array Value} {ts:List TypeId} {i:Nat} {v:Value} (h:Go.Row.okWide P w r b0 t cs) (hts:P.cellTypes P.depth t=some ts) (hi:cs[i]?=some v) (hu:ts[i%ts.length]?=some u) (hk:P.underlying u=some (.int .i32)):∃ n:Int,v=.int .i32 n∧(-2147483648≤n∧n≤2147483647):=by
 obtain ⟨n,rfl,hn⟩:=FU' h hts hi hu hk
 exact ⟨n,rfl,by simpa [IntKind.has,IntKind.min,IntKind.max,IntKind.signed,IntKind.bits] using hn⟩
theorem CD' {P:Program} {w:World} {r:Reach} {b0:Nat} {t u:TypeId} {cs:Array Value} {ts:List TypeId} {i:Nat} {v:Value} (h:Go.Row.okWide P w r b0 t cs) (hts:P.cellTypes P.depth t=some ts) (hi:cs[i]?=some v) (hu:ts[i%ts.length]?=some u) (hk:P.underlying u=some (.int .u8)):∃ n:Nat,v=.int .u8 ((n:Nat):Int)∧n≤255:=by
 obtain ⟨n,rfl,hn⟩:=FU' h hts hi hu hk
 have h2:0≤n∧n≤255:=by simpa [IntKind.has,IntKind.min,IntKind.max,IntKind.signed,IntKind.bits] using hn
 exact ⟨n.toNat,by rw [Int.toNat_of_nonneg h2.1],by omega⟩
theorem Hk {P:Program} {w:World} {r:Reach} {b0:Nat} {t:TypeId} {v:Value} (ha:(match P.underlying t with | some (.struct _) | some (.array _ _)=>true | _=>false)=true) (hn:P.cellsOf t=4) (h:Value.okWide P w r b0 t v):∃ q0 q1 q2 q3,v=.agg #[q0,q1,q2,q3]∧Go.Row.okWide P w r b0 t #[q0,q1,q2,q3]:=by
 have h2:∃ cs,v=.agg cs∧cs.size=P.cellsOf t∧Go.Row.okWide P w r b0 t cs:=by
   unfold Value.okWide at h
   split at h
   · exact h
   · exact h
   · rename_i h1 h2
     split at ha
     · rename_i hu;exact absurd hu (h1 _)
     · rename_i hu;exact absurd hu (h2 _ _)
     · cases ha
 obtain ⟨⟨l⟩,rfl,hs,hr⟩:=h2
 rw [hn] at hs
 match l,hs with
 | [q0,q1,q2,q3],_=>exact ⟨q0,q1,q2,q3,rfl,hr⟩
theorem Hk' {P:Program} {w:World} {r:Reach} {b0:Nat} {t:TypeId} {v:Value} (ha:(match P.underlying t with | some (.struct _) | some (.array _ _)=>true | _=>false)=true) (hn:P.cellsOf t=6) (h:Value.okWide P w r b0 t v):∃ q0 q1 q2 q3 q4 q5,v=.agg #[q0,q1,q2,q3,q4,q5]∧Go.Row.okWide P w r b0 t #[q0,q1,q2,q3,q4,q5]:=by
 have h2:∃ cs,v=.agg cs∧cs.size=P.cellsOf t∧Go.Row.okWide P w r b0 t cs:=by
   unfold Value.okWide at h
   split at h
   · exact h
   · exact h
   · rename_i h1 h2
     split at ha
     · rename_i hu;exact absurd hu (h1 _)
     · rename_i hu;exact absurd hu (h2 _ _)
     · cases ha
 obtain ⟨⟨l⟩,rfl,hs,hr⟩:=h2
 rw [hn] at hs
 match l,hs with
 | [q0,q1,q2,q3,q4,q5],_=>exact ⟨q0,q1,q2,q3,q4,q5,rfl,hr⟩
theorem Hl' {w:World} {r:Reach} {b0:Nat} {v:Value} (h:Value.okWide Tryz.prog w r b0 27 v):∃ (M0:Int) (D0:Nat) (M1:Int) (D1:Nat) (M2:Int) (D2:Nat),v=.agg #[.int .i32 M0,.int .u8 ((D0:Nat):Int),.int .i32 M1,.int .u8 ((D1:Nat):Int),.int .i32 M2,.int .u8 ((D2:Nat):Int)]∧(-2147483648≤M0∧M0≤2147483647)∧D0≤255∧(-2147483648≤M1∧M1≤2147483647)∧D1≤255∧(-2147483648≤M2∧M2≤2147483647)∧D2≤255:=by
 obtain ⟨q0,q1,q2,q3,q4,q5,rfl,hr⟩:=Hk' (by rw [Tryz.underlying27]) (by kernel_rfl) h
 have hts:Tryz.prog.cellTypes Tryz.prog.depth 27=some [21,5,21,5,21,5]:=by kernel_rfl
 obtain ⟨x0,rfl,y0⟩:=CD hr hts (i:=0) rfl rfl (by kernel_rfl)
 obtain ⟨x1,rfl,y1⟩:=CD' hr hts (i:=1) rfl rfl (by kernel_rfl)
 obtain ⟨x2,rfl,y2⟩:=CD hr hts (i:=2) rfl rfl (by kernel_rfl)
 obtain ⟨x3,rfl,y3⟩:=CD' hr hts (i:=3) rfl rfl (by kernel_rfl)
 obtain ⟨x4,rfl,y4⟩:=CD hr hts (i:=4) rfl rfl (by kernel_rfl)
 obtain ⟨x5,rfl,y5⟩:=CD' hr hts (i:=5) rfl rfl (by kernel_rfl)
 exact ⟨x0,x1,x2,x3,x4,x5,rfl,y0,y1,y2,y3,y4,y5⟩
theorem Hm {w:World} {r:Reach} {b0:Nat} {v:Value} (h:Value.okWide Tryz.prog w r b0 30 v):∃ (M3:Int) (D3:Nat) (M4:Int) (D4:Nat),v=.agg #[.int .i32 M3,.int .u8 ((D3:Nat):Int),.int .i32 M4,.int .u8 ((D4:Nat):Int)]∧(-2147483648≤M3∧M3≤2147483647)∧D3≤255∧(-2147483648≤M4∧M4≤2147483647)∧D4≤255:=by
 obtain ⟨q0,q1,q2,q3,rfl,hr⟩:=Hk (by rw [Tryz.underlying30]) (by kernel_rfl) h
 have hts:Tryz.prog.cellTypes Tryz.prog.depth 30=some [21,5,21,5]:=by kernel_rfl
 obtain ⟨x0,rfl,y0⟩:=CD hr hts (i:=0) rfl rfl (by kernel_rfl)
 obtain ⟨x1,rfl,y1⟩:=CD' hr hts (i:=1) rfl rfl (by kernel_rfl)
 obtain ⟨x2,rfl,y2⟩:=CD hr hts (i:=2) rfl rfl (by kernel_rfl)
 obtain ⟨x3,rfl,y3⟩:=CD' hr hts (i:=3) rfl rfl (by kernel_rfl)
 exact ⟨x0,x1,x2,x3,rfl,y0,y1,y2,y3⟩
theorem Gy' {H:Type} {enc:TypeId × Value→H} {W:World} {v:Value} {d:DataW H} {p:List MemPlace} {base:Nat} {spare:Nat→Bool} (hv:Value.okWide Tryz.prog W .any base 28 v)
   (h:DataW.Trod enc Tryz.prog W 0 spare true 28 v d p):∃ ad l c,v=.slice ad (List.length l) c∧Rf.AQ W ad l∧Rf.Bg l:=by
 obtain ⟨a0,len,cap,rfl⟩:=okWide_slice Tryz.underlying28 hv
 obtain ⟨fuel,hf0⟩:=h
 have hf:DataW.trod enc Tryz.prog W 0 spare true fuel 28 [.slice a0 len cap]=some (d,p):=hf0
 rcases Go.Deep.open_slice_pairs Tryz.underlying28 Tryz.underlying23 (by kernel_rfl) rfl rfl (by kernel_rfl) (by kernel_rfl) hf with ⟨hcs,hx⟩ | ⟨a,len',cap',m,n,V0,V1,D0,D1,P0,P1,hcs,_,hl,hm,hmm,hx,hcell⟩
 · simp at hcs
   obtain ⟨rfl,rfl,rfl⟩:=hcs
   exact ⟨none,[],0,rfl,fun i s h=>by simp at h,fun x h=>by simp at h⟩
 · simp at hcs
   obtain ⟨rfl,rfl,rfl⟩:=hcs
   have hlen:len≤m:=by rw [hmm];split <;> omega
   have each:∀ i,i<len→∃ x:Int × Nat,V0 i=.int .i32 x.1∧V1 i=.int .u8 ((x.2:Nat):Int)∧(-2147483648≤x.1∧x.1≤2147483647)∧x.2≤255:=by
     intro i hi
     obtain ⟨-,-,h3,h4⟩:=hcell i (by omega)
     obtain ⟨n0,e0,-,w0⟩:=DataW.trod_int (k:=.i32) (by kernel_rfl) h3
     obtain ⟨n1,e1,-,w1⟩:=DataW.trod_int (k:=.u8) (by kernel_rfl) h4
     simp only [List.cons.injEq,and_true] at e0 e1
     have k0 : -2147483648≤n0∧n0≤2147483647:=by simpa [Lit.wf,IntKind.has,IntKind.min,IntKind.max,IntKind.signed,IntKind.bits] using w0
     have k1:0≤n1∧n1≤255:=by simpa [Lit.wf,IntKind.has,IntKind.min,IntKind.max,IntKind.signed,IntKind.bits] using w1
     exact ⟨(n0,n1.toNat),e0,by rw [e1];simp only [Int.toNat_of_nonneg k1.1],k0,by show n1.toNat≤255;omega⟩
   obtain ⟨X,hX⟩:=Go.Deep.choose_lt each
   refine ⟨some a,(List.range len).map X,cap,by simp,?_,?_⟩
   · intro i x hi
     have hil:i<len:=by have:=(List.getElem?_eq_some_iff.1 hi).1;simpa using this
     obtain ⟨h1,h2,-,-⟩:=hcell i (by omega)
     obtain ⟨b,off,spot⟩:=a
     have hspot:spot=none:=by
       have h0:=(hcell 0 (by omega)).1
       simpa [Addr.add] using World.cell?_spot h0
     subst hspot
     have hx:x=X i:=by simpa [hil] using hi.symm
     subst hx
     obtain ⟨e0,e1,-,-⟩:=hX i hil
     refine ⟨b,off,rfl,?_,?_⟩
     · rw [←e0,←Addr.add_lit];exact h1
     · rw [←e1,show off+i*2+1=off+(i*2+1) by omega,←Addr.add_lit];exact h2
   · intro x hx
     obtain ⟨i,hi,rfl⟩:=List.mem_map.1 hx
     obtain ⟨-,-,h3,h4⟩:=hX i (List.mem_range.1 hi)
     exact ⟨h3,h4⟩
theorem DI {H:Type} {enc:TypeId × Value→H} {W:World} {args:Array Value} {ds gs:List (DataW H)} {before:List MemPlace} {base:Nat}
   (hval0:∀ (j:Nat) t v,Tryz.f3.params[j]?=some t→args[j]?=some v→Value.okWide Tryz.prog W .any base t v)
   (hW:DataW.Whole enc Tryz.prog Tryz.f3.params.toList Rows.probeTightSpec.vars false W args.toList ds gs before) (hL:laidMetH Tryz.prog listed W) (hsh:W.ShapedOpen Tryz.prog) :
   Calls Tryz.prog 3 args W fun e W'=>∃ v,e=.returned v∧Rows.probeTightSpec.post enc Tryz.prog Tryz.f3 false true false false W args v W':=by
 have hval:∀ (j:Nat) t v,Tryz.f3.params[j]?=some t→args[j]?=some v→Value.okWide Tryz.prog W .any base t v:=hval0
 have hW':=hW
 obtain ⟨p,q,hA0,hV,rfl,_,_⟩:=hW
 have hA:DataW.TrodAll enc Tryz.prog W 0 (fun _=>true) true Tryz.f3.params.toList args.toList ds p:=hA0
 rw [Tryz.params3] at hA hval
 obtain ⟨va,vb,vc,da,db,dc,pa,pb,pc,rfl,rfl,rfl,h0,h9,hc9⟩:=trodAll_three hA
 obtain ⟨rfl,rfl⟩:=trodVars_none hV
 have h0k:=h0
 have h9k:=h9
 have hck:=hc9
 simp only [List.append_nil] at hW'
 have hlta:∀ x∈pa,x.block<W.heap.size:=fun x hx=>hW'.lt x (by simp [hx])
 have hltb:∀ x∈pb,x.block<W.heap.size:=fun x hx=>hW'.lt x (by simp [hx])
 have hltc:∀ x∈pc,x.block<W.heap.size:=fun x hx=>hW'.lt x (by simp [hx])
 have harga:∀ (W':World),Below W.heap.size W W'→DataW.Trod enc Tryz.prog W' 0 (fun b=>decide (b<W.heap.size)) true 27 va da pa :=
   fun W' hn=>Below.trod DH' (by kernel_rfl) (of_decide_eq_true (by kernel_rfl)) h0k hn hlta
 have hargb:∀ (W':World),Below W.heap.size W W'→DataW.Trod enc Tryz.prog W' 0 (fun b=>decide (b<W.heap.size)) true 28 vb db pb :=
   fun W' hn=>Below.trod DH' (by kernel_rfl) (of_decide_eq_true (by kernel_rfl)) h9k hn hltb
 have hargc:∀ (W':World),Below W.heap.size W W'→DataW.Trod enc Tryz.prog W' 0 (fun b=>decide (b<W.heap.size)) true 30 vc dc pc :=
   fun W' hn=>Below.trod DH' (by kernel_rfl) (of_decide_eq_true (by kernel_rfl)) hck hn hltc
 have hT:=IX hL
 obtain ⟨M0,D0,M1,D1,M2,D2,rfl,c0,h0_,c1,h1_,c2,h2_⟩:=Hl' (hval 0 27 va rfl rfl)
 obtain ⟨ad,l,c,rfl,hl,hok⟩:=Gy' (hval 1 28 vb rfl rfl) h9
 obtain ⟨M3,D3,M4,D4,rfl,c3,h3_,c4,h4_⟩:=Hm (hval 2 30 vc rfl rfl)
 have hwalk:=Rf.Fp' (w:=W) (c:=c) c0 h0_ c1 h1_ c2 h2_ c3 h3_ c4 h4_ rfl rfl rfl rfl rfl rfl rfl hl hok rfl hT
 refine hwalk.mono fun e W' ⟨he,hb⟩=>?_
 subst he
 exact ⟨_,rfl,_,_,_,[],pa++(pb++pc),[],hW',trodAll_mk1 (shut_bool Tryz.underlying4 _),by have h3:=trodAll_mk3 (harga _ hb) (hargb _ hb) (hargc _ hb);simp only [List.append_nil,List.append_assoc] at h3 ⊢;exact h3,rfl,hb.frame _,fun h=>by cases h⟩
theorem Dq (os:Os) (started:os.Started) (H:Type) (enc:TypeId × Value→H) :
   ReturnsInHanded {} Tryz.checked os 3 .any (fun w args=>(Rows.probeTightSpec.pre enc Tryz.prog Tryz.f3 [] false w args∧laidMetH Tryz.prog listed w)∧sizedMet enc Tryz.prog Tryz.f3 (OpenSpec.ofChange Rows.probeTightSpec) false w args)
     (Rows.probeTightSpec.post enc Tryz.prog Tryz.f3 false true false false):=by
 refine returnsInHanded_of_calls (C:=Tryz.checked) own started (by kernel_rfl)
   (ChangeSpec.witness_shaped (enc:=enc) (C:=Tryz.checked) (os:=os) (X:=fun w _=>laidMetH Tryz.prog listed w) false (World.laidAll Tryz.prog os listed) #[.agg #[.int .i32 0,.int .u8 0,.int .i32 0,.int .u8 0,.int .i32 0,.int .u8 0],.slice none 0 0,.agg #[.int .i32 0,.int .u8 0,.int .i32 0,.int .u8 0]] 8 (World.laidAll_os _ _ _)
     (World.shaped_of_ZipB (by kernel_rfl) (by kernel_rfl)) (by kernel_rfl) (by kernel_rfl) (by kernel_rfl)
     (by rw [MakeChecks.laidMetH_plain _ _ _ (by kernel_rfl)];exact laidMet_laidAll _ (by kernel_rfl) (by kernel_rfl))) ?_
 intro w tape i _ hsh _ hok hpre _
 obtain ⟨_,_,_,fn',hfn',_,_,_,_,hval0⟩:=hok
 obtain rfl:fn'=Tryz.f3:=Option.some.inj (hfn'.symm.trans Tryz.func3)
 obtain ⟨⟨⟨ds,gs,before,hw,_⟩,hL0⟩,_⟩:=hpre
 refine (DI hval0 (DataW.Whole.of_heap (w':=w.forCall tape i) (by rfl) hw) (hL0.of_heap (by rfl)) hsh).mono fun e W' ⟨v,he,hp⟩=>?_
 subst he
 exact ChangeSpec.post_blind hp
theorem DI':Rows.ProbeTightSaid :=
 OpenClaim.holds_of_wide 3 Tryz.f3 rfl rfl rfl rfl rfl rfl rfl ⟨rfl,rfl,rfl,rfl,rfl⟩ rfl rfl rfl rfl rfl (by kernel_rfl) Tryz.func3 (by kernel_rfl)
   (of_decide_eq_true (by kernel_rfl)) (by unfold Func.isWrapper;first | (rw [if_pos (by decide +kernel)];kernel_rfl) | (rw [if_neg (by decide +kernel)];exact ⟨rfl,rfl⟩))
   (fun os started H enc _=>Dq os started H enc)
theorem probeTight_card:Rows.ProbeTightCardSaid :=
 Claim7.holds_tied_plain_at .later [] [.data,.data,.pinned] true Rows.probeTightCard.stood.harness false DI' (fun _ h=>by cases h) (by kernel_rfl) (fun _ h=>by cases h) probeTight_row_tie rfl ⟨rfl,rfl⟩ (by kernel_rfl) rfl
   (fun f fn hf hfn=>by
     obtain rfl:f=3:=Option.some.inj ((show Tryz.prog.funcNamed Tryz.f3.name=some 3 by kernel_rfl).symm.trans hf) |>.symm
     obtain rfl:fn=Tryz.f3:=(Option.some.inj (Tryz.func3.symm.trans hfn)).symm
     exact ⟨by kernel_rfl,fun j t ht=>by
       rw [Tryz.params3] at ht
       have hm:t∈[27,28,30]:=by simpa using Array.mem_of_getElem? ht
       have hall:([27,28,30].all fun u => !Tryz.prog.wantsStandIn u)=true:=by kernel_rfl
       exact (show Tryz.prog.wantsStandIn t=false by simpa using List.all_eq_true.1 hall t hm)⟩)
   (by kernel_rfl)
end Go.Proofs.YtflopjfnppolgaaGreatDoor
