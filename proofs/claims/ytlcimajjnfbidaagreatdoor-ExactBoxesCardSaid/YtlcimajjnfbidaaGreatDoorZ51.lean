/-
  The statement of the claim: the law returns true for every input, and each argument reads afterwards as it read before. Condition: the listed variables of the library (a table of math/bits, two tables of unicode/utf8) read at the start as the text of the program lays them; the card ties this to that text.
-/
import Derived.Test.YtlcimajjnfbidaaGreatDoorZ00
import Derived.Test.YtlcimajjnfbidaaGreatDoorZ50
import Derived.Test.YtlcimajjnfbidaaGreatDoorZ49
import Derived.Lib.SmallJoins
import Derived.Carry
set_option linter.all false
set_option maxRecDepth 100000
set_option maxHeartbeats 40000000
namespace Go.Proofs.YtlcimajjnfbidaaGreatDoor
open Lib (hid)
open Go.ChangeShapes Go.WideShapes Go.ChangeAt Go.RowKit
open Go.ChangeMaps (open_string shut_string)
theorem FR:laidOutB Tryz.prog=true:=by kernel_rfl
theorem DK {H:Type} {enc:TypeId × Value→H} {W:World} {args:Array Value} {ds gs:List (DataW H)} {before:List MemPlace} {base:Nat}
   (hval0:∀ (j:Nat) t v,Tryz.f4.params[j]?=some t→args[j]?=some v→Value.okWide Tryz.prog W .any base t v)
   (hW:DataW.Whole enc Tryz.prog Tryz.f4.params.toList Rows.exactBoxesSpec.vars false W args.toList ds gs before) (hL:laidMetH Tryz.prog listed W) (hsh:W.ShapedOpen Tryz.prog) :
   Calls Tryz.prog 4 args W fun e W'=>∃ v,e=.returned v∧Rows.exactBoxesSpec.post enc Tryz.prog Tryz.f4 false true false false W args v W':=by
 have hval:∀ (j:Nat) t v,Tryz.f4.params[j]?=some t→args[j]?=some v→Value.okWide Tryz.prog W .any base t v:=hval0
 have hW':=hW
 obtain ⟨p,q,hA0,hV,rfl,_,_⟩:=hW
 have hA:DataW.TrodAll enc Tryz.prog W 0 (fun _=>true) true Tryz.f4.params.toList args.toList ds p:=hA0
 rw [Tryz.params4] at hA hval
 obtain ⟨va,vb,vc,da,db,dc,pa,pb,pc,rfl,rfl,rfl,h0,h9,hb0⟩:=trodAll_three hA
 obtain ⟨rfl,rfl⟩:=trodVars_none hV
 obtain ⟨nc,rfl,rfl,rfl,wg⟩:=open_int Tryz.underlying3 (hval 2 3 vc rfl rfl) hb0
 have h0k:=h0
 have h9k:=h9
 simp only [List.append_nil] at hW'
 have hlta:∀ x∈pa,x.block<W.heap.size:=fun x hx=>hW'.lt x (by simp [hx])
 have hltb:∀ x∈pb,x.block<W.heap.size:=fun x hx=>hW'.lt x (by simp [hx])
 have hargs:∀ (W':World),Below W.heap.size W W'→DataW.Trod enc Tryz.prog W' 0 (fun b=>decide (b<W.heap.size)) true 46 va da pa :=
   fun W' hn=>Below.trod FR (by kernel_rfl) (of_decide_eq_true (by kernel_rfl)) h0k hn hlta
 have hargs9:∀ (W':World),Below W.heap.size W W'→DataW.Trod enc Tryz.prog W' 0 (fun b=>decide (b<W.heap.size)) true 46 vb db pb :=
   fun W' hn=>Below.trod FR (by kernel_rfl) (of_decide_eq_true (by kernel_rfl)) h9k hn hltb
 obtain ⟨mx,hM⟩:=Hg hsh
 have hT:=IW' hL
 obtain ⟨v0,v1,y0,y1,n,ev,-,-,h1,h2⟩:=Go.Joins.open_agg2 Tryz.underlying46 (by kernel_rfl) (by kernel_rfl) (hval 0 46 va rfl rfl) h0
 obtain ⟨sa,e1,-,-⟩:=DataW.trod_string (t:=9) Tryz.underlying9 h1
 obtain ⟨sb,e2,-,-⟩:=DataW.trod_string (t:=9) Tryz.underlying9 h2
 simp only [List.cons.injEq,and_true] at e1 e2
 subst e1 e2
 obtain ⟨v2,v3,y2,y3,n2,ev2,-,-,h3,h4⟩:=Go.Joins.open_agg2 Tryz.underlying46 (by kernel_rfl) (by kernel_rfl) (hval 1 46 vb rfl rfl) h9
 obtain ⟨sc,e3,-,-⟩:=DataW.trod_string (t:=9) Tryz.underlying9 h3
 obtain ⟨sd,e4,-,-⟩:=DataW.trod_string (t:=9) Tryz.underlying9 h4
 simp only [List.cons.injEq,and_true] at e3 e4
 subst e3 e4
 have hwalk:=Rf.Fl (w:=W) (s1:=sa) (s2:=sb) (s3:=sc) (s4:=sd) (n:=nc) hM hT
 rw [←ev,←ev2] at hwalk
 refine hwalk.mono fun e W' ⟨he,hb⟩=>?_
 subst he
 exact ⟨_,rfl,_,_,_,[],pa++pb,[],hW',trodAll_mk1 (shut_bool Tryz.underlying4 _),by have h3:=trodAll_mk3 (hargs _ hb) (hargs9 _ hb) (shut_int Tryz.underlying3 wg);simp only [List.append_nil] at h3;exact h3,rfl,hb.frame _,fun h=>by cases h⟩
theorem Dq' (os:Os) (started:os.Started) (H:Type) (enc:TypeId × Value→H) :
   ReturnsInHanded {} Tryz.checked os 4 .any (fun w args=>(Rows.exactBoxesSpec.pre enc Tryz.prog Tryz.f4 [] false w args∧laidMetH Tryz.prog listed w)∧sizedMet enc Tryz.prog Tryz.f4 (OpenSpec.ofChange Rows.exactBoxesSpec) false w args)
     (Rows.exactBoxesSpec.post enc Tryz.prog Tryz.f4 false true false false):=by
 refine returnsInHanded_of_calls (C:=Tryz.checked) own started (by kernel_rfl)
   (ChangeSpec.witness_shaped (enc:=enc) (C:=Tryz.checked) (os:=os) (X:=fun w _=>laidMetH Tryz.prog listed w) false (World.laidAll Tryz.prog os listed) #[.agg #[.string ⟨#[]⟩,.string ⟨#[]⟩],.agg #[.string ⟨#[]⟩,.string ⟨#[]⟩],.int .i64 0] 8 (World.laidAll_os _ _ _)
     (World.shaped_of_ZipB (by kernel_rfl) (by kernel_rfl)) (by kernel_rfl) (by kernel_rfl) (by kernel_rfl)
     (by rw [MakeChecks.laidMetH_plain _ _ _ (by kernel_rfl)];exact laidMet_laidAll _ (by kernel_rfl) (by kernel_rfl))) ?_
 intro w tape i _ hsh _ hok hpre _
 obtain ⟨_,_,_,fn',hfn',_,_,_,_,hval0⟩:=hok
 obtain rfl:fn'=Tryz.f4:=Option.some.inj (hfn'.symm.trans Tryz.func4)
 obtain ⟨⟨⟨ds,gs,before,hw,_⟩,hL0⟩,_⟩:=hpre
 refine (DK hval0 (DataW.Whole.of_heap (w':=w.forCall tape i) (by rfl) hw) (hL0.of_heap (by rfl)) hsh).mono fun e W' ⟨v,he,hp⟩=>?_
 subst he
 exact ChangeSpec.post_blind hp
theorem DK':Rows.ExactBoxesSaid :=
 OpenClaim.holds_of_wide 4 Tryz.f4 rfl rfl rfl rfl rfl rfl rfl ⟨rfl,rfl,rfl,rfl,rfl⟩ rfl rfl rfl rfl rfl (by kernel_rfl) Tryz.func4 (by kernel_rfl)
   (of_decide_eq_true (by kernel_rfl)) (by unfold Func.isWrapper;first | (rw [if_pos (by decide +kernel)];kernel_rfl) | (rw [if_neg (by decide +kernel)];exact ⟨rfl,rfl⟩))
   (fun os started H enc _=>Dq' os started H enc)
theorem exactBoxes_card:Rows.ExactBoxesCardSaid :=
 Claim7.holds_tied_plain_at .later [] [.data,.data,.pinned] true Rows.exactBoxesCard.stood.harness false DK' (fun _ h=>by cases h) (by kernel_rfl) (fun _ h=>by cases h) exactBoxes_row_tie rfl ⟨rfl,rfl⟩ (by kernel_rfl) rfl
   (fun f fn hf hfn=>by
     obtain rfl:f=4:=Option.some.inj ((show Tryz.prog.funcNamed Tryz.f4.name=some 4 by kernel_rfl).symm.trans hf) |>.symm
     obtain rfl:fn=Tryz.f4:=(Option.some.inj (Tryz.func4.symm.trans hfn)).symm
     exact ⟨by kernel_rfl,fun j t ht=>by
       rw [Tryz.params4] at ht
       have hm:t∈[46,46,3]:=by simpa using Array.mem_of_getElem? ht
       have hall:([46,46,3].all fun u => !Tryz.prog.wantsStandIn u)=true:=by kernel_rfl
       exact (show Tryz.prog.wantsStandIn t=false by simpa using List.all_eq_true.1 hall t hm)⟩)
   (by kernel_rfl)
end Go.Proofs.YtlcimajjnfbidaaGreatDoor
