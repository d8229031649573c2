/-
  The statement of the claim: the law returns true for every input, and each argument reads afterwards as it read before. Condition: the listed variables of the library (a table of math/bits, two tables of unicode/utf8) read at the start as the text of the program lays them; the card ties this to that text.
-/
import Derived.Test.YtlcimajjnfbidaaGreatDoorV00
import Derived.Test.YtlcimajjnfbidaaGreatDoorV37
import Derived.Test.YtlcimajjnfbidaaGreatDoorV36
import Derived.SliceStrings
import Derived.Lib.SmallJoins
import Derived.Carry
set_option linter.all false
set_option maxRecDepth 100000
set_option maxHeartbeats 40000000
namespace Go.Proofs.YtlcimajjnfbidaaGreatDoor
open Lib (hid)
open Go.ChangeShapes Go.WideShapes Go.ChangeAt Go.RowKit
open Go.ChangeMaps (open_string shut_string)
theorem laidOutW:laidOutB Tryz.prog=true:=by kernel_rfl
theorem array6 {α:Type} {cs:Array α} (h:cs.size=6):∃ c0 c1 c2 c3 c4 c5,cs=#[c0,c1,c2,c3,c4,c5]:=by
 obtain ⟨l⟩:=cs
 match l,h with
 | [c0,c1,c2,c3,c4,c5],_=>exact ⟨c0,c1,c2,c3,c4,c5,rfl⟩
section
variable {H:Type} {enc:TypeId × Value→H} {w:World} {base:Nat} {spare:Nat→Bool} {held:Bool}
theorem endsW_open {n:Nat} {c d:Value} {y:DataW H × List MemPlace} (h:DataW.trod enc Tryz.prog w base spare held n 46 [c,d]=some y):∃ s t:ByteArray,c=.string s∧d=.string t:=by
 obtain ⟨y0,y1,k,-,-,h0,h1⟩:=trod_struct2 Tryz.underlying46 h
 have e0:DataW.trod enc Tryz.prog w base spare held k 9 [c]=some y0:=h0
 have e1:DataW.trod enc Tryz.prog w base spare held k 9 [d]=some y1:=h1
 obtain ⟨s,es,-,-⟩:=DataW.trod_string (t:=9) Tryz.underlying9 e0
 obtain ⟨t,et,-,-⟩:=DataW.trod_string (t:=9) Tryz.underlying9 e1
 simp only [List.cons.injEq,and_true] at es et
 exact ⟨s,t,es,et⟩
theorem byteW_open {n:Nat} {c:Value} {y:DataW H × List MemPlace} (h:DataW.trod enc Tryz.prog w base spare held n 5 [c]=some y):∃ m:Nat,c=.int .u8 (m:Nat)∧m≤255:=by
 obtain ⟨m,e,-,wm⟩:=DataW.trod_int (t:=5) Tryz.underlying5 h
 have hm:0≤m∧m≤255:=by simpa [Lit.wf,IntKind.min,IntKind.max,IntKind.signed,IntKind.bits] using wm
 simp only [List.cons.injEq,and_true] at e
 exact ⟨m.toNat,by rw [e,Int.toNat_of_nonneg hm.1],by omega⟩
theorem someW_of {α:Type} {x:Option α} {l:List α} {i:Nat} (h:x=l[i]?) (hi:i<l.length):∃ y,x=some y:=⟨l[i],by rw [h,List.getElem?_eq_getElem hi]⟩
theorem textsW_open {n:Nat} {c:Value} {y:DataW H × List MemPlace} (h:DataW.trod enc Tryz.prog w 0 spare true n 22 [c]=some y):∃ ad ss c1,c=.slice ad ss.length c1∧Rf.StrsAt w ad ss∧ss.length≤9223372036854775807:=by
 obtain ⟨d,p⟩:=y
 rcases open_strings Tryz.underlying22 Tryz.underlying9 (by kernel_rfl) h with ⟨hcs,hx⟩ | ⟨a,len,cap,ss,hcs,_,hl,hm,hz,hx,hcell,_⟩
 · simp only [List.cons.injEq,and_true] at hcs
   subst hcs
   exact ⟨none,[],0,rfl,fun i s h=>by simp at h,Nat.zero_le _⟩
 · simp only [List.cons.injEq,and_true] at hcs
   subst hcs
   have hlen:len≤ss.length:=by rw [hz];split <;> omega
   have e:(ss.take len).length=len:=by simp;omega
   refine ⟨some a,ss.take len,cap,by rw [e],fun j X hX=>?_,by rw [e];unfold maxLen at hm;omega⟩
   have hj:j<len:=by
     have:=(List.getElem?_eq_some_iff.1 hX).1
     simp at this
     omega
   obtain ⟨b,off,spot⟩:=a
   have hspot:spot=none:=by simpa [Addr.add] using World.cell?_spot (hcell 0 (by omega))
   subst hspot
   have hX':ss.getD j ByteArray.empty=X:=by
     rw [List.getElem?_take_of_lt hj] at hX
     simp [List.getD,hX]
   exact ⟨b,off,rfl,by rw [←Addr.add_lit,←hX'];exact hcell j (by omega)⟩
theorem curve_open {r:Reach} {b0:Nat} {v:Value} {d:DataW H} {p:List MemPlace} (hv:Value.okWide Tryz.prog w r b0 78 v) (h:DataW.Trod enc Tryz.prog w 0 spare true 78 v d p) :
   ∃ (ad:Option Addr) (ss:List ByteArray) (c1:Nat) (s1 s2:ByteArray) (m n k:Nat),v=.agg #[.slice ad ss.length c1,.string s1,.string s2,.int .u8 (m:Nat),.int .u8 (n:Nat),.int .u8 (k:Nat)]∧Rf.StrsAt w ad ss∧ss.length≤9223372036854775807∧m≤255∧n≤255∧k≤255:=by
 obtain ⟨cs,rfl,hsz⟩:=okWide_struct Tryz.underlying78 hv
 obtain ⟨c0,c1,c2,c3,c4,c5,rfl⟩:=array6 (hsz.trans (by kernel_rfl))
 obtain ⟨fuel,hf⟩:=h
 obtain ⟨xs,n,-,-,-,hlen,hff⟩:=DataW.trod_struct Tryz.underlying78 hf
 have hl:xs.length=5:=hlen
 obtain ⟨y0,h0⟩:=someW_of (hff 0 _ rfl) (by omega)
 obtain ⟨y1,h1⟩:=someW_of (hff 1 _ rfl) (by omega)
 obtain ⟨y2,h2⟩:=someW_of (hff 2 _ rfl) (by omega)
 obtain ⟨y3,h3⟩:=someW_of (hff 3 _ rfl) (by omega)
 obtain ⟨y4,h4⟩:=someW_of (hff 4 _ rfl) (by omega)
 obtain ⟨ad,ss,k1,rfl,hs,hm⟩:=textsW_open (c:=c0) h0
 obtain ⟨s1,s2,rfl,rfl⟩:=endsW_open (c:=c1) (d:=c2) h1
 obtain ⟨m,rfl,e3⟩:=byteW_open (c:=c3) h2
 obtain ⟨n',rfl,e4⟩:=byteW_open (c:=c4) h3
 obtain ⟨k,rfl,e5⟩:=byteW_open (c:=c5) h4
 exact ⟨ad,ss,k1,s1,s2,m,n',k,rfl,hs,hm,e3,e4,e5⟩
end
theorem exactEncloses_calls {H:Type} {enc:TypeId × Value→H} {W:World} {args:Array Value} {ds gs:List (DataW H)} {before:List MemPlace} {base:Nat}
   (hval0:∀ (j:Nat) t v,Tryz.f6.params[j]?=some t→args[j]?=some v→Value.okWide Tryz.prog W .any base t v)
   (hW:DataW.Whole enc Tryz.prog Tryz.f6.params.toList Rows.exactEnclosesSpec.vars false W args.toList ds gs before) (hL:laidMetH Tryz.prog listed W) (hsh:W.ShapedOpen Tryz.prog) :
   Calls Tryz.prog 6 args W fun e W'=>∃ v,e=.returned v∧Rows.exactEnclosesSpec.post enc Tryz.prog Tryz.f6 false true false false W args v W':=by
 have hval:∀ (j:Nat) t v,Tryz.f6.params[j]?=some t→args[j]?=some v→Value.okWide Tryz.prog W .any base t v:=hval0
 have hW':=hW
 obtain ⟨p,q,hA0,hV,rfl,_,_⟩:=hW
 have hA:DataW.TrodAll enc Tryz.prog W 0 (fun _=>true) true Tryz.f6.params.toList args.toList ds p:=hA0
 rw [Tryz.params6] at hA hval
 obtain ⟨v,d,rfl,rfl,h0⟩:=trodAll_one hA
 obtain ⟨rfl,rfl⟩:=trodVars_none hV
 have h0k:=h0
 simp only [List.append_nil] at hW'
 have hlt:∀ x∈p,x.block<W.heap.size:=fun x hx=>by simpa using hW'.lt x hx
 have hargs:∀ (W':World),Below W.heap.size W W'→DataW.Trod enc Tryz.prog W' 0 (fun b=>decide (b<W.heap.size)) true 78 v d p :=
   fun W' hn=>Below.trod laidOutW (by kernel_rfl) (of_decide_eq_true (by kernel_rfl)) h0k hn hlt
 obtain ⟨mx,hM⟩:=maxLen_of hsh
 have hT:=tab_of hL
 obtain ⟨ad,ss,c1,s1,s2,m,n,k,ev,hs,hm1,hm,hn,hk⟩:=curve_open (hval 0 78 v rfl rfl) h0
 have hwalk:=Rf.enclLaw_any (w:=W) (c1:=c1) (s1:=s1) (s2:=s2) (nn:=m) (t:=n) (pl:=k) hs hm1 hn hm hk hM hT
 rw [←ev] at hwalk
 refine hwalk.mono fun e W' ⟨he,hb⟩=>?_
 subst he
 exact ⟨_,rfl,_,_,_,[],p,[],hW',trodAll_mk1 (shut_bool Tryz.underlying4 _),trodAll_mk1 (hargs _ hb),rfl,hb.frame _,fun h=>by cases h⟩
theorem exactEncloses_lifted (os:Os) (started:os.Started) (H:Type) (enc:TypeId × Value→H) :
   ReturnsInHanded {} Tryz.checked os 6 .any (fun w args=>(Rows.exactEnclosesSpec.pre enc Tryz.prog Tryz.f6 [] false w args∧laidMetH Tryz.prog listed w)∧sizedMet enc Tryz.prog Tryz.f6 (OpenSpec.ofChange Rows.exactEnclosesSpec) false w args)
     (Rows.exactEnclosesSpec.post enc Tryz.prog Tryz.f6 false true false false):=by
 refine returnsInHanded_of_calls (C:=Tryz.checked) own started (by kernel_rfl)
   (ChangeSpec.witness_shaped (enc:=enc) (C:=Tryz.checked) (os:=os) (X:=fun w _=>laidMetH Tryz.prog listed w) false (World.laidAll Tryz.prog os listed) #[.agg #[.slice none 0 0,.string ⟨#[]⟩,.string ⟨#[]⟩,.int .u8 0,.int .u8 0,.int .u8 0]] 8 (World.laidAll_os _ _ _)
     (World.shaped_of_ZipB (by kernel_rfl) (by kernel_rfl)) (by kernel_rfl) (by kernel_rfl) (by kernel_rfl)
     (by rw [MakeChecks.laidMetH_plain _ _ _ (by kernel_rfl)];exact laidMet_laidAll _ (by kernel_rfl) (by kernel_rfl))) ?_
 intro w tape i _ hsh _ hok hpre _
 obtain ⟨_,_,_,fn',hfn',_,_,_,_,hval0⟩:=hok
 obtain rfl:fn'=Tryz.f6:=Option.some.inj (hfn'.symm.trans Tryz.func6)
 obtain ⟨⟨⟨ds,gs,before,hw,_⟩,hL0⟩,_⟩:=hpre
 refine (exactEncloses_calls hval0 (DataW.Whole.of_heap (w':=w.forCall tape i) (by rfl) hw) (hL0.of_heap (by rfl)) hsh).mono fun e W' ⟨v,he,hp⟩=>?_
 subst he
 exact ChangeSpec.post_blind hp
theorem exactEncloses_holds:Rows.ExactEnclosesSaid :=
 OpenClaim.holds_of_wide 6 Tryz.f6 rfl rfl rfl rfl rfl rfl rfl ⟨rfl,rfl,rfl,rfl,rfl⟩ rfl rfl rfl rfl rfl (by kernel_rfl) Tryz.func6 (by kernel_rfl)
   (of_decide_eq_true (by kernel_rfl)) (by unfold Func.isWrapper;first | (rw [if_pos (by decide +kernel)];kernel_rfl) | (rw [if_neg (by decide +kernel)];exact ⟨rfl,rfl⟩))
   (fun os started H enc _=>exactEncloses_lifted os started H enc)
theorem exactEncloses_card:Rows.ExactEnclosesCardSaid :=
 Claim7.holds_tied_plain_at .later [] [.data,.data,.pinned] true Rows.exactEnclosesCard.stood.harness false exactEncloses_holds (fun _ h=>by cases h) (by kernel_rfl) (fun _ h=>by cases h) exactEncloses_row_tie rfl ⟨rfl,rfl⟩ (by kernel_rfl) rfl
   (fun f fn hf hfn=>by
     obtain rfl:f=6:=Option.some.inj ((show Tryz.prog.funcNamed Tryz.f6.name=some 6 by kernel_rfl).symm.trans hf) |>.symm
     obtain rfl:fn=Tryz.f6:=(Option.some.inj (Tryz.func6.symm.trans hfn)).symm
     exact ⟨by kernel_rfl,fun j t ht=>by
       rw [Tryz.params6] at ht
       have hm:t∈[78]:=by simpa using Array.mem_of_getElem? ht
       have hall:([78].all fun u => !Tryz.prog.wantsStandIn u)=true:=by kernel_rfl
       exact (show Tryz.prog.wantsStandIn t=false by simpa using List.all_eq_true.1 hall t hm)⟩)
   (by kernel_rfl)
end Go.Proofs.YtlcimajjnfbidaaGreatDoor
