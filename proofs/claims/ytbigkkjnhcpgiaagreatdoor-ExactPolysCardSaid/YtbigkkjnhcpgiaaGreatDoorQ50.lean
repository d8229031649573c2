/-
  The statement of the claim: the law returns true for every input, and each argument reads afterwards as it read before. Condition: the listed variables of the library (a table of math/bits, two tables of unicode/utf8) read at the start as the text of the program lays them; the card ties this to that text.
-/
import Derived.Test.YtbigkkjnhcpgiaaGreatDoorQ00
import Derived.Test.YtbigkkjnhcpgiaaGreatDoorQ49
import Derived.Test.YtbigkkjnhcpgiaaGreatDoorQ48
import Derived.SliceStrings
import Derived.Lib.SmallJoins
import Derived.Carry
set_option linter.all false
set_option maxRecDepth 100000
set_option maxHeartbeats 40000000
namespace Go.Proofs.YtbigkkjnhcpgiaaGreatDoor
open Lib (hid)
open Go.ChangeShapes Go.WideShapes Go.ChangeAt Go.RowKit
open Go.ChangeMaps (open_string shut_string)
theorem Fs':laidOutB Tryz.prog=true:=by kernel_rfl
theorem FP {H:Type} {enc:TypeId × Value→H} {W:World} {v:Value} {d:DataW H} {p:List MemPlace} {base:Nat} {spare:Nat→Bool} (hv:Value.okWide Tryz.prog W .any base 22 v)
   (h:DataW.Trod enc Tryz.prog W 0 spare true 22 v d p):∃ ad ss c,v=.slice ad ss.length c∧Rf.AM' W ad ss∧ss.length≤9223372036854775807:=by
 obtain ⟨a0,len,cap,rfl⟩:=okWide_slice Tryz.underlying22 hv
 obtain ⟨fuel,hf0⟩:=h
 have hf:DataW.trod enc Tryz.prog W 0 spare true fuel 22 [.slice a0 len cap]=some (d,p):=hf0
 rcases open_strings Tryz.underlying22 Tryz.underlying9 (by kernel_rfl) hf with ⟨hcs,hx⟩ | ⟨a,len',cap',ss,hcs,_,hl,hm,hz,hx,hcell,_⟩
 · simp at hcs
   obtain ⟨rfl,rfl,rfl⟩:=hcs
   exact ⟨none,[],0,rfl,fun i s h=>by simp at h,Nat.zero_le _⟩
 · simp at hcs
   obtain ⟨rfl,rfl,rfl⟩:=hcs
   have hlen:len≤ss.length:=by rw [hz];split <;> omega
   have e:(ss.take len).length=len:=by simp;omega
   refine ⟨some a,ss.take len,cap,by rw [e],fun j X hX=>?_,by rw [e];unfold maxLen at hm;omega⟩
   have hj:j<len:=by
     have:=(List.getElem?_eq_some_iff.1 hX).1
     simp at this
     omega
   obtain ⟨b,off,spot⟩:=a
   have hspot:spot=none:=by simpa [Addr.add] using World.cell?_spot (hcell 0 (by omega))
   subst hspot
   have hX':ss.getD j ByteArray.empty=X:=by
     rw [List.getElem?_take_of_lt hj] at hX
     simp [List.getD,hX]
   exact ⟨b,off,rfl,by rw [←Addr.add_lit,←hX'];exact hcell j (by omega)⟩
theorem DR' {H:Type} {enc:TypeId × Value→H} {W:World} {args:Array Value} {ds gs:List (DataW H)} {before:List MemPlace} {base:Nat}
   (hval0:∀ (j:Nat) t v,Tryz.f3.params[j]?=some t→args[j]?=some v→Value.okWide Tryz.prog W .any base t v)
   (hW:DataW.Whole enc Tryz.prog Tryz.f3.params.toList Rows.exactPolysSpec.vars false W args.toList ds gs before) (hL:laidMetH Tryz.prog listed W) (hsh:W.ShapedOpen Tryz.prog) :
   Calls Tryz.prog 3 args W fun e W'=>∃ v,e=.returned v∧Rows.exactPolysSpec.post enc Tryz.prog Tryz.f3 false true false false W args v W':=by
 have hval:∀ (j:Nat) t v,Tryz.f3.params[j]?=some t→args[j]?=some v→Value.okWide Tryz.prog W .any base t v:=hval0
 have hW':=hW
 obtain ⟨p,q,hA0,hV,rfl,_,_⟩:=hW
 have hA:DataW.TrodAll enc Tryz.prog W 0 (fun _=>true) true Tryz.f3.params.toList args.toList ds p:=hA0
 rw [Tryz.params3] at hA hval
 obtain ⟨va,vb,vc,da,db,dc,pa,pb,pc,rfl,rfl,rfl,h0,h9,hb0⟩:=trodAll_three hA
 obtain ⟨rfl,rfl⟩:=trodVars_none hV
 obtain ⟨nc,rfl,rfl,rfl,wg⟩:=open_int Tryz.underlying3 (hval 2 3 vc rfl rfl) hb0
 have h0k:=h0
 have h9k:=h9
 simp only [List.append_nil] at hW'
 have hlta:∀ x∈pa,x.block<W.heap.size:=fun x hx=>hW'.lt x (by simp [hx])
 have hltb:∀ x∈pb,x.block<W.heap.size:=fun x hx=>hW'.lt x (by simp [hx])
 have hargs:∀ (W':World),Below W.heap.size W W'→DataW.Trod enc Tryz.prog W' 0 (fun b=>decide (b<W.heap.size)) true 22 va da pa :=
   fun W' hn=>Below.trod Fs' (by kernel_rfl) (of_decide_eq_true (by kernel_rfl)) h0k hn hlta
 have hargs9:∀ (W':World),Below W.heap.size W W'→DataW.Trod enc Tryz.prog W' 0 (fun b=>decide (b<W.heap.size)) true 24 vb db pb :=
   fun W' hn=>Below.trod Fs' (by kernel_rfl) (of_decide_eq_true (by kernel_rfl)) h9k hn hltb
 obtain ⟨mx,hM⟩:=HO' hsh
 have hT:=Jr' hL
 obtain ⟨ad,ss,c1,rfl,hs,hm1⟩:=FP (hval 0 22 va rfl rfl) h0
 obtain ⟨v2,v3,y2,y3,n2,ev2,-,-,h3,h4⟩:=Go.Joins.open_agg2 Tryz.underlying24 (by kernel_rfl) (by kernel_rfl) (hval 1 24 vb rfl rfl) h9
 obtain ⟨sc,e3,-,-⟩:=DataW.trod_string (t:=9) Tryz.underlying9 h3
 obtain ⟨sd,e4,-,-⟩:=DataW.trod_string (t:=9) Tryz.underlying9 h4
 simp only [List.cons.injEq,and_true] at e3 e4
 subst e3 e4
 have hwalk:=Rf.Fs (w:=W) (c:=c1) (s1:=sc) (s2:=sd) (q:=nc) hs hm1 hM hT
 rw [←ev2] at hwalk
 refine hwalk.mono fun e W' ⟨he,hb⟩=>?_
 subst he
 exact ⟨_,rfl,_,_,_,[],pa++pb,[],hW',trodAll_mk1 (shut_bool Tryz.underlying4 _),by have h3:=trodAll_mk3 (hargs _ hb) (hargs9 _ hb) (shut_int Tryz.underlying3 wg);simp only [List.append_nil] at h3;exact h3,rfl,hb.frame _,fun h=>by cases h⟩
theorem Dy (os:Os) (started:os.Started) (H:Type) (enc:TypeId × Value→H) :
   ReturnsInHanded {} Tryz.checked os 3 .any (fun w args=>(Rows.exactPolysSpec.pre enc Tryz.prog Tryz.f3 [] false w args∧laidMetH Tryz.prog listed w)∧sizedMet enc Tryz.prog Tryz.f3 (OpenSpec.ofChange Rows.exactPolysSpec) false w args)
     (Rows.exactPolysSpec.post enc Tryz.prog Tryz.f3 false true false false):=by
 refine returnsInHanded_of_calls (C:=Tryz.checked) own started (by kernel_rfl)
   (ChangeSpec.witness_shaped (enc:=enc) (C:=Tryz.checked) (os:=os) (X:=fun w _=>laidMetH Tryz.prog listed w) false (World.laidAll Tryz.prog os listed) #[.slice none 0 0,.agg #[.string ⟨#[]⟩,.string ⟨#[]⟩],.int .i64 0] 8 (World.laidAll_os _ _ _)
     (World.shaped_of_ZipB (by kernel_rfl) (by kernel_rfl)) (by kernel_rfl) (by kernel_rfl) (by kernel_rfl)
     (by rw [MakeChecks.laidMetH_plain _ _ _ (by kernel_rfl)];exact laidMet_laidAll _ (by kernel_rfl) (by kernel_rfl))) ?_
 intro w tape i _ hsh _ hok hpre _
 obtain ⟨_,_,_,fn',hfn',_,_,_,_,hval0⟩:=hok
 obtain rfl:fn'=Tryz.f3:=Option.some.inj (hfn'.symm.trans Tryz.func3)
 obtain ⟨⟨⟨ds,gs,before,hw,_⟩,hL0⟩,_⟩:=hpre
 refine (DR' hval0 (DataW.Whole.of_heap (w':=w.forCall tape i) (by rfl) hw) (hL0.of_heap (by rfl)) hsh).mono fun e W' ⟨v,he,hp⟩=>?_
 subst he
 exact ChangeSpec.post_blind hp
theorem DS:Rows.ExactPolysSaid :=
 OpenClaim.holds_of_wide 3 Tryz.f3 rfl rfl rfl rfl rfl rfl rfl ⟨rfl,rfl,rfl,rfl,rfl⟩ rfl rfl rfl rfl rfl (by kernel_rfl) Tryz.func3 (by kernel_rfl)
   (of_decide_eq_true (by kernel_rfl)) (by unfold Func.isWrapper;first | (rw [if_pos (by decide +kernel)];kernel_rfl) | (rw [if_neg (by decide +kernel)];exact ⟨rfl,rfl⟩))
   (fun os started H enc _=>Dy os started H enc)
theorem exactPolys_card:Rows.ExactPolysCardSaid :=
 Claim7.holds_tied_plain_at .later [] [.data,.data,.pinned] true Rows.exactPolysCard.stood.harness false DS (fun _ h=>by cases h) (by kernel_rfl) (fun _ h=>by cases h) exactPolys_row_tie rfl ⟨rfl,rfl⟩ (by kernel_rfl) rfl
   (fun f fn hf hfn=>by
     obtain rfl:f=3:=Option.some.inj ((show Tryz.prog.funcNamed Tryz.f3.name=some 3 by kernel_rfl).symm.trans hf) |>.symm
     obtain rfl:fn=Tryz.f3:=(Option.some.inj (Tryz.func3.symm.trans hfn)).symm
     exact ⟨by kernel_rfl,fun j t ht=>by
       rw [Tryz.params3] at ht
       have hm:t∈[22,24,3]:=by simpa using Array.mem_of_getElem? ht
       have hall:([22,24,3].all fun u => !Tryz.prog.wantsStandIn u)=true:=by kernel_rfl
       exact (show Tryz.prog.wantsStandIn t=false by simpa using List.all_eq_true.1 hall t hm)⟩)
   (by kernel_rfl)
end Go.Proofs.YtbigkkjnhcpgiaaGreatDoor
