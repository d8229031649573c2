/-
  The statement of the claim: the law returns true for every input, and each argument reads afterwards as it read before. Condition: the listed variables of the library (a table of math/bits, two tables of unicode/utf8) read at the start as the text of the program lays them; the card ties this to that text.
-/
import Derived.Test.YtcicfnlljdnagaaGreatDoorY00
import Derived.Test.YtcicfnlljdnagaaGreatDoorY48
import Derived.Test.YtcicfnlljdnagaaGreatDoorY47
import Derived.Lib.SmallJoins
import Derived.Carry
set_option linter.all false
set_option maxRecDepth 100000
set_option maxHeartbeats 40000000
namespace Go.Proofs.YtcicfnlljdnagaaGreatDoor
open Lib (hid)
open Go.ChangeShapes Go.WideShapes Go.ChangeAt Go.RowKit
open Go.ChangeMaps (open_string shut_string)
theorem DE':laidOutB Tryz.prog=true:=by kernel_rfl
theorem Ft {P:Program} {w:World} {r:Reach} {b0:Nat} {t u:TypeId} {cs:Array Value} {ts:List TypeId} {i:Nat} {v:Value} {k:IntKind} (h:Go.Row.okWide P w r b0 t cs) (hts:P.cellTypes P.depth t=some ts) (hi:cs[i]?=some v) (hu:ts[i%ts.length]?=some u) (hk:P.underlying u=some (.int k)):∃ n,v=.int k n∧k.has n:=by
 obtain ⟨ts',h1,-,h2⟩:=h
 obtain rfl:ts=ts':=Option.some.inj (hts.symm.trans h1)
 obtain ⟨u',h3,h4⟩:=h2 i v hi
 obtain rfl:u=u':=Option.some.inj (hu.symm.trans h3)
 unfold Cell.okWide at h4
 rw [hk] at h4
 have h5:Cell.ok P w r b0 u v:=by cases v <;> first | exact h4 | exact h4.elim
 unfold Cell.ok at h5
 rw [hk] at h5
 cases v with
 | int k' n=>obtain ⟨rfl,h6⟩:=h5;exact ⟨n,rfl,h6⟩
 | _=>exact h5.elim
theorem BB' {P:Program} {w:World} {r:Reach} {b0:Nat} {t u:TypeId} {cs:Array Value} {ts:List TypeId} {i:Nat} {v:Value} (h:Go.Row.okWide P w r b0 t cs) (hts:P.cellTypes P.depth t=some ts) (hi:cs[i]?=some v) (hu:ts[i%ts.length]?=some u) (hk:P.underlying u=some (.int .i32)):∃ n:Int,v=.int .i32 n∧(-2147483648≤n∧n≤2147483647):=by
 obtain ⟨n,rfl,hn⟩:=Ft h hts hi hu hk
 exact ⟨n,rfl,by simpa [IntKind.has,IntKind.min,IntKind.max,IntKind.signed,IntKind.bits] using hn⟩
theorem Bh {P:Program} {w:World} {r:Reach} {b0:Nat} {t u:TypeId} {cs:Array Value} {ts:List TypeId} {i:Nat} {v:Value} (h:Go.Row.okWide P w r b0 t cs) (hts:P.cellTypes P.depth t=some ts) (hi:cs[i]?=some v) (hu:ts[i%ts.length]?=some u) (hk:P.underlying u=some (.int .u8)):∃ n:Nat,v=.int .u8 ((n:Nat):Int)∧n≤255:=by
 obtain ⟨n,rfl,hn⟩:=Ft h hts hi hu hk
 have h2:0≤n∧n≤255:=by simpa [IntKind.has,IntKind.min,IntKind.max,IntKind.signed,IntKind.bits] using hn
 exact ⟨n.toNat,by rw [Int.toNat_of_nonneg h2.1],by omega⟩
theorem GE {P:Program} {w:World} {r:Reach} {b0:Nat} {t:TypeId} {v:Value} (ha:(match P.underlying t with | some (.struct _) | some (.array _ _)=>true | _=>false)=true) (hn:P.cellsOf t=4) (h:Value.okWide P w r b0 t v):∃ q0 q1 q2 q3,v=.agg #[q0,q1,q2,q3]∧Go.Row.okWide P w r b0 t #[q0,q1,q2,q3]:=by
 have h2:∃ cs,v=.agg cs∧cs.size=P.cellsOf t∧Go.Row.okWide P w r b0 t cs:=by
   unfold Value.okWide at h
   split at h
   · exact h
   · exact h
   · rename_i h1 h2
     split at ha
     · rename_i hu;exact absurd hu (h1 _)
     · rename_i hu;exact absurd hu (h2 _ _)
     · cases ha
 obtain ⟨⟨l⟩,rfl,hs,hr⟩:=h2
 rw [hn] at hs
 match l,hs with
 | [q0,q1,q2,q3],_=>exact ⟨q0,q1,q2,q3,rfl,hr⟩
theorem GE' {P:Program} {w:World} {r:Reach} {b0:Nat} {t:TypeId} {v:Value} (ha:(match P.underlying t with | some (.struct _) | some (.array _ _)=>true | _=>false)=true) (hn:P.cellsOf t=6) (h:Value.okWide P w r b0 t v):∃ q0 q1 q2 q3 q4 q5,v=.agg #[q0,q1,q2,q3,q4,q5]∧Go.Row.okWide P w r b0 t #[q0,q1,q2,q3,q4,q5]:=by
 have h2:∃ cs,v=.agg cs∧cs.size=P.cellsOf t∧Go.Row.okWide P w r b0 t cs:=by
   unfold Value.okWide at h
   split at h
   · exact h
   · exact h
   · rename_i h1 h2
     split at ha
     · rename_i hu;exact absurd hu (h1 _)
     · rename_i hu;exact absurd hu (h2 _ _)
     · cases ha
 obtain ⟨⟨l⟩,rfl,hs,hr⟩:=h2
 rw [hn] at hs
 match l,hs with
 | [q0,q1,q2,q3,q4,q5],_=>exact ⟨q0,q1,q2,q3,q4,q5,rfl,hr⟩
theorem GF {P:Program} {w:World} {r:Reach} {b0:Nat} {t:TypeId} {v:Value} (ha:(match P.underlying t with | some (.struct _) | some (.array _ _)=>true | _=>false)=true) (hn:P.cellsOf t=8) (h:Value.okWide P w r b0 t v):∃ q0 q1 q2 q3 q4 q5 q6 q7,v=.agg #[q0,q1,q2,q3,q4,q5,q6,q7]∧Go.Row.okWide P w r b0 t #[q0,q1,q2,q3,q4,q5,q6,q7]:=by
 have h2:∃ cs,v=.agg cs∧cs.size=P.cellsOf t∧Go.Row.okWide P w r b0 t cs:=by
   unfold Value.okWide at h
   split at h
   · exact h
   · exact h
   · rename_i h1 h2
     split at ha
     · rename_i hu;exact absurd hu (h1 _)
     · rename_i hu;exact absurd hu (h2 _ _)
     · cases ha
 obtain ⟨⟨l⟩,rfl,hs,hr⟩:=h2
 rw [hn] at hs
 match l,hs with
 | [q0,q1,q2,q3,q4,q5,q6,q7],_=>exact ⟨q0,q1,q2,q3,q4,q5,q6,q7,rfl,hr⟩
theorem GF' {w:World} {r:Reach} {b0:Nat} {v:Value} (h:Value.okWide Tryz.prog w r b0 25 v):∃ (I0:Int) (D0:Nat) (I1:Int) (D1:Nat),v=.agg #[.int .i32 I0,.int .u8 ((D0:Nat):Int),.int .i32 I1,.int .u8 ((D1:Nat):Int)]∧(-2147483648≤I0∧I0≤2147483647)∧D0≤255∧(-2147483648≤I1∧I1≤2147483647)∧D1≤255:=by
 obtain ⟨q0,q1,q2,q3,rfl,hr⟩:=GE (by rw [Tryz.underlying25]) (by kernel_rfl) h
 have hts:Tryz.prog.cellTypes Tryz.prog.depth 25=some [21,5,21,5]:=by kernel_rfl
 obtain ⟨x0,rfl,y0⟩:=BB' hr hts (i:=0) rfl rfl (by kernel_rfl)
 obtain ⟨x1,rfl,y1⟩:=Bh hr hts (i:=1) rfl rfl (by kernel_rfl)
 obtain ⟨x2,rfl,y2⟩:=BB' hr hts (i:=2) rfl rfl (by kernel_rfl)
 obtain ⟨x3,rfl,y3⟩:=Bh hr hts (i:=3) rfl rfl (by kernel_rfl)
 exact ⟨x0,x1,x2,x3,rfl,y0,y1,y2,y3⟩
theorem GG {w:World} {r:Reach} {b0:Nat} {v:Value} (h:Value.okWide Tryz.prog w r b0 26 v):∃ (I2:Int) (D2:Nat) (I3:Int) (D3:Nat) (I4:Int) (D4:Nat) (I5:Int) (D5:Nat),v=.agg #[.int .i32 I2,.int .u8 ((D2:Nat):Int),.int .i32 I3,.int .u8 ((D3:Nat):Int),.int .i32 I4,.int .u8 ((D4:Nat):Int),.int .i32 I5,.int .u8 ((D5:Nat):Int)]∧(-2147483648≤I2∧I2≤2147483647)∧D2≤255∧(-2147483648≤I3∧I3≤2147483647)∧D3≤255∧(-2147483648≤I4∧I4≤2147483647)∧D4≤255∧(-2147483648≤I5∧I5≤2147483647)∧D5≤255:=by
 obtain ⟨q0,q1,q2,q3,q4,q5,q6,q7,rfl,hr⟩:=GF (by rw [Tryz.underlying26]) (by kernel_rfl) h
 have hts:Tryz.prog.cellTypes Tryz.prog.depth 26=some [21,5,21,5,21,5,21,5]:=by kernel_rfl
 obtain ⟨x0,rfl,y0⟩:=BB' hr hts (i:=0) rfl rfl (by kernel_rfl)
 obtain ⟨x1,rfl,y1⟩:=Bh hr hts (i:=1) rfl rfl (by kernel_rfl)
 obtain ⟨x2,rfl,y2⟩:=BB' hr hts (i:=2) rfl rfl (by kernel_rfl)
 obtain ⟨x3,rfl,y3⟩:=Bh hr hts (i:=3) rfl rfl (by kernel_rfl)
 obtain ⟨x4,rfl,y4⟩:=BB' hr hts (i:=4) rfl rfl (by kernel_rfl)
 obtain ⟨x5,rfl,y5⟩:=Bh hr hts (i:=5) rfl rfl (by kernel_rfl)
 obtain ⟨x6,rfl,y6⟩:=BB' hr hts (i:=6) rfl rfl (by kernel_rfl)
 obtain ⟨x7,rfl,y7⟩:=Bh hr hts (i:=7) rfl rfl (by kernel_rfl)
 exact ⟨x0,x1,x2,x3,x4,x5,x6,x7,rfl,y0,y1,y2,y3,y4,y5,y6,y7⟩
theorem GG' {w:World} {r:Reach} {b0:Nat} {v:Value} (h:Value.okWide Tryz.prog w r b0 28 v):∃ (s0:Nat) (t0:Nat) (M:Int) (D:Nat) (N:Int) (E:Nat),v=.agg #[.int .u8 ((s0:Nat):Int),.int .u8 ((t0:Nat):Int),.int .i32 M,.int .u8 ((D:Nat):Int),.int .i32 N,.int .u8 ((E:Nat):Int)]∧s0≤255∧t0≤255∧(-2147483648≤M∧M≤2147483647)∧D≤255∧(-2147483648≤N∧N≤2147483647)∧E≤255:=by
 obtain ⟨q0,q1,q2,q3,q4,q5,rfl,hr⟩:=GE' (by rw [Tryz.underlying28]) (by kernel_rfl) h
 have hts:Tryz.prog.cellTypes Tryz.prog.depth 28=some [5,5,21,5,21,5]:=by kernel_rfl
 obtain ⟨x0,rfl,y0⟩:=Bh hr hts (i:=0) rfl rfl (by kernel_rfl)
 obtain ⟨x1,rfl,y1⟩:=Bh hr hts (i:=1) rfl rfl (by kernel_rfl)
 obtain ⟨x2,rfl,y2⟩:=BB' hr hts (i:=2) rfl rfl (by kernel_rfl)
 obtain ⟨x3,rfl,y3⟩:=Bh hr hts (i:=3) rfl rfl (by kernel_rfl)
 obtain ⟨x4,rfl,y4⟩:=BB' hr hts (i:=4) rfl rfl (by kernel_rfl)
 obtain ⟨x5,rfl,y5⟩:=Bh hr hts (i:=5) rfl rfl (by kernel_rfl)
 exact ⟨x0,x1,x2,x3,x4,x5,rfl,y0,y1,y2,y3,y4,y5⟩
theorem Dh' {H:Type} {enc:TypeId × Value→H} {W:World} {args:Array Value} {ds gs:List (DataW H)} {before:List MemPlace} {base:Nat}
   (hval0:∀ (j:Nat) t v,Tryz.f3.params[j]?=some t→args[j]?=some v→Value.okWide Tryz.prog W .any base t v)
   (hW:DataW.Whole enc Tryz.prog Tryz.f3.params.toList Rows.probeSmallerSpec.vars false W args.toList ds gs before) (hL:laidMetH Tryz.prog listed W) (hsh:W.ShapedOpen Tryz.prog) :
   Calls Tryz.prog 3 args W fun e W'=>∃ v,e=.returned v∧Rows.probeSmallerSpec.post enc Tryz.prog Tryz.f3 false true false false W args v W':=by
 have hval:∀ (j:Nat) t v,Tryz.f3.params[j]?=some t→args[j]?=some v→Value.okWide Tryz.prog W .any base t v:=hval0
 have hW':=hW
 obtain ⟨p,q,hA0,hV,rfl,_,_⟩:=hW
 have hA:DataW.TrodAll enc Tryz.prog W 0 (fun _=>true) true Tryz.f3.params.toList args.toList ds p:=hA0
 rw [Tryz.params3] at hA hval
 obtain ⟨va,vb,vc,da,db,dc,pa,pb,pc,rfl,rfl,rfl,h0,h9,hc9⟩:=trodAll_three hA
 obtain ⟨rfl,rfl⟩:=trodVars_none hV
 have h0k:=h0
 have h9k:=h9
 have hck:=hc9
 simp only [List.append_nil] at hW'
 have hlta:∀ x∈pa,x.block<W.heap.size:=fun x hx=>hW'.lt x (by simp [hx])
 have hltb:∀ x∈pb,x.block<W.heap.size:=fun x hx=>hW'.lt x (by simp [hx])
 have hltc:∀ x∈pc,x.block<W.heap.size:=fun x hx=>hW'.lt x (by simp [hx])
 have harga:∀ (W':World),Below W.heap.size W W'→DataW.Trod enc Tryz.prog W' 0 (fun b=>decide (b<W.heap.size)) true 25 va da pa :=
   fun W' hn=>Below.trod DE' (by kernel_rfl) (of_decide_eq_true (by kernel_rfl)) h0k hn hlta
 have hargb:∀ (W':World),Below W.heap.size W W'→DataW.Trod enc Tryz.prog W' 0 (fun b=>decide (b<W.heap.size)) true 26 vb db pb :=
   fun W' hn=>Below.trod DE' (by kernel_rfl) (of_decide_eq_true (by kernel_rfl)) h9k hn hltb
 have hargc:∀ (W':World),Below W.heap.size W W'→DataW.Trod enc Tryz.prog W' 0 (fun b=>decide (b<W.heap.size)) true 28 vc dc pc :=
   fun W' hn=>Below.trod DE' (by kernel_rfl) (of_decide_eq_true (by kernel_rfl)) hck hn hltc
 have hT:=Im hL
 obtain ⟨I0,D0,I1,D1,rfl,cI0,cD0,cI1,cD1⟩:=GF' (hval 0 25 va rfl rfl)
 obtain ⟨I2,D2,I3,D3,I4,D4,I5,D5,rfl,cI2,cD2,cI3,cD3,cI4,cD4,cI5,cD5⟩:=GG (hval 1 26 vb rfl rfl)
 obtain ⟨s0,t0,M,D,N,E,rfl,cs0,ct0,cM,cD,cN,cE⟩:=GG' (hval 2 28 vc rfl rfl)
 have hwalk:=Rf.EY' (w:=W) cI0.1 cI0.2 cD0 cI1.1 cI1.2 cD1 cI2.1 cI2.2 cD2 cI3.1 cI3.2 cD3 cI4.1 cI4.2 cD4 cI5.1 cI5.2 cD5 cM.1 cM.2 cD cN.1 cN.2 cE cs0 ct0 hT
 refine hwalk.mono fun e W' ⟨he,hb⟩=>?_
 subst he
 exact ⟨_,rfl,_,_,_,[],pa++(pb++pc),[],hW',trodAll_mk1 (shut_bool Tryz.underlying4 _),by have h3:=trodAll_mk3 (harga _ hb) (hargb _ hb) (hargc _ hb);simp only [List.append_nil,List.append_assoc] at h3 ⊢;exact h3,rfl,hb.frame _,fun h=>by cases h⟩
theorem C2' (os:Os) (started:os.Started) (H:Type) (enc:TypeId × Value→H) :
   ReturnsInHanded {} Tryz.checked os 3 .any (fun w args=>(Rows.probeSmallerSpec.pre enc Tryz.prog Tryz.f3 [] false w args∧laidMetH Tryz.prog listed w)∧sizedMet enc Tryz.prog Tryz.f3 (OpenSpec.ofChange Rows.probeSmallerSpec) false w args)
     (Rows.probeSmallerSpec.post enc Tryz.prog Tryz.f3 false true false false):=by
 refine returnsInHanded_of_calls (C:=Tryz.checked) own started (by kernel_rfl)
   (ChangeSpec.witness_shaped (enc:=enc) (C:=Tryz.checked) (os:=os) (X:=fun w _=>laidMetH Tryz.prog listed w) false (World.laidAll Tryz.prog os listed) #[.agg #[.int .i32 0,.int .u8 0,.int .i32 0,.int .u8 0],.agg #[.int .i32 0,.int .u8 0,.int .i32 0,.int .u8 0,.int .i32 0,.int .u8 0,.int .i32 0,.int .u8 0],.agg #[.int .u8 0,.int .u8 0,.int .i32 0,.int .u8 0,.int .i32 0,.int .u8 0]] 8 (World.laidAll_os _ _ _)
     (World.shaped_of_ZipB (by kernel_rfl) (by kernel_rfl)) (by kernel_rfl) (by kernel_rfl) (by kernel_rfl)
     (by rw [MakeChecks.laidMetH_plain _ _ _ (by kernel_rfl)];exact laidMet_laidAll _ (by kernel_rfl) (by kernel_rfl))) ?_
 intro w tape i _ hsh _ hok hpre _
 obtain ⟨_,_,_,fn',hfn',_,_,_,_,hval0⟩:=hok
 obtain rfl:fn'=Tryz.f3:=Option.some.inj (hfn'.symm.trans Tryz.func3)
 obtain ⟨⟨⟨ds,gs,before,hw,_⟩,hL0⟩,_⟩:=hpre
 refine (Dh' hval0 (DataW.Whole.of_heap (w':=w.forCall tape i) (by rfl) hw) (hL0.of_heap (by rfl)) hsh).mono fun e W' ⟨v,he,hp⟩=>?_
 subst he
 exact ChangeSpec.post_blind hp
theorem Di:Rows.ProbeSmallerSaid :=
 OpenClaim.holds_of_wide 3 Tryz.f3 rfl rfl rfl rfl rfl rfl rfl ⟨rfl,rfl,rfl,rfl,rfl⟩ rfl rfl rfl rfl rfl (by kernel_rfl) Tryz.func3 (by kernel_rfl)
   (of_decide_eq_true (by kernel_rfl)) (by unfold Func.isWrapper;first | (rw [if_pos (by decide +kernel)];kernel_rfl) | (rw [if_neg (by decide +kernel)];exact ⟨rfl,rfl⟩))
   (fun os started H enc _=>C2' os started H enc)
theorem probeSmaller_card:Rows.ProbeSmallerCardSaid :=
 Claim7.holds_tied_plain_at .later [] [.data,.data,.pinned] true Rows.probeSmallerCard.stood.harness false Di (fun _ h=>by cases h) (by kernel_rfl) (fun _ h=>by cases h) probeSmaller_row_tie rfl ⟨rfl,rfl⟩ (by kernel_rfl) rfl
   (fun f fn hf hfn=>by
     obtain rfl:f=3:=Option.some.inj ((show Tryz.prog.funcNamed Tryz.f3.name=some 3 by kernel_rfl).symm.trans hf) |>.symm
     obtain rfl:fn=Tryz.f3:=(Option.some.inj (Tryz.func3.symm.trans hfn)).symm
     exact ⟨by kernel_rfl,fun j t ht=>by
       rw [Tryz.params3] at ht
       have hm:t∈[25,26,28]:=by simpa using Array.mem_of_getElem? ht
       have hall:([25,26,28].all fun u => !Tryz.prog.wantsStandIn u)=true:=by kernel_rfl
       exact (show Tryz.prog.wantsStandIn t=false by simpa using List.all_eq_true.1 hall t hm)⟩)
   (by kernel_rfl)
end Go.Proofs.YtcicfnlljdnagaaGreatDoor
