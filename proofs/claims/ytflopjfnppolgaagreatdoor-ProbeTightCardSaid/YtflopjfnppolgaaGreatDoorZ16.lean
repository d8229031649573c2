/-
  Contracts of the functions that the law calls, for every input (Txd).
-/
import Derived.Test.YtflopjfnppolgaaGreatDoorZ00
import Derived.Test.YtflopjfnppolgaaGreatDoorZ14
import Derived.Test.YtflopjfnppolgaaGreatDoorZ15
import Derived.Laws.AppendOwn
import Derived.Shelf.Strings.Builder1
set_option linter.all false
set_option maxRecDepth 100000
set_option maxHeartbeats 40000000
namespace Go.Proofs.YtflopjfnppolgaaGreatDoor
open Lib (hid)
open Go.RowKit
open Vx
theorem EJ' (B b:Nat) (bs:List Value) (w:World) (h:Lib.IsBuilder 159 5 B b bs w) :
   Calls Tryz.prog 140 #[.pointer (some ⟨b,0,none⟩)] w fun e w'=>e=.returned (.tuple #[])∧(Lib.BuilderAt 159 5 B b (.pointer (some ⟨b,0,none⟩)) bs w'∧Below B w w') :=
 Any.Builder_copyCheck (ρ:=Tryz.lays105_ren) { Tryz.lays105 with } Tryz.Builder_Extra_105.toX72 B b bs w h
theorem DC:(Tryz.prog.info? 5).map (fun i=>(i.zero,i.size,i.bytes))=some (some (.int .u8 0),1,1):=by kernel_rfl
def HB' (B b:Nat) (bs:List Value) (m:Nat) (w:World) (e:Ending) (w':World):Prop :=
  e=.returned (.tuple #[.int .i64 (m:Nat),.nilIface])∧Lib.BuilderAt 159 5 B b (.pointer (some ⟨b,0,none⟩)) bs w'∧Below B w w'
theorem DC' (B b:Nat) (bs:List Value) (ad:Addr) (m c:Nat) (news:List Value) (w:World) (h:Lib.IsBuilder 159 5 B b bs w)
   (hl:news.length=m) (hnews:∀ j u,news[j]?=some u→w.cell? (ad.add j)=some u) (hadB:ad.block<B) (h1:∀ u∈news,u.oneCell'=true)
   (hlen:bs.length+m≤140737488355328) (hBw:B≤w.heap.size) :
   Calls Tryz.prog 115 #[.pointer (some ⟨b,0,none⟩),.slice (some ad) m c] w (HB' B b (bs++news) m w):=by
 obtain ⟨i0,hi,hz0,hz1,hz2⟩:=info_parts DC
 go_enter Tryz.func115,Tryz.ntmps115
 go_wp2_with (go_at_call 140;refine (EJ' _ _ _ _ h).mono ?_)
 rintro e w1 ⟨rfl,h1',hb1⟩
 obtain ⟨hB,v,hbk,hown,hne⟩:=h1'
 have c0:w1.cell? ⟨b,0,none⟩=some (.pointer (some ⟨b,0,none⟩)):=by rw [Lib.cell_of_heap hbk];rfl
 have c1:w1.cell? ⟨b,1,none⟩=some v:=by rw [Lib.cell_of_heap hbk];rfl
 have hnews1:∀ j u,news[j]?=some u→w1.cell? (ad.add j)=some u:=fun j u hj=>by rw [hb1.cell (p:=ad.add j) (by unfold Addr.add;split <;> exact hadB)];exact hnews j u hj
 go_wp2_with (at_builtin;refine wpList_append_own _ rfl _ _ 65 rfl B 5 i0 (.int .u8 0) 1 1 Tryz.underlying65 hi hz0 hz1 hz2 rfl (by decide) _ _ _ rfl hown ad m c news rfl (by omega) hnews1 h1 ?c3 ?c4 ?c5 ?_)
 case c3=>unfold maxLen;omega
 case c4=>omega
 case c5=>have:=hb1.size;omega
 intro v' w2 hown' hgrow _
 have hlt:b<w1.heap.size:=by
   rcases Nat.lt_or_ge b w1.heap.size with h' | h'
   · exact h'
   · simp [Array.getElem?_eq_none h'] at hbk
 have hb2:w2.heap[b]?=some (.cells #[.pointer (some ⟨b,0,none⟩),v] 159 (0,0)):=by
   rw [hgrow.block b hlt (fun e=>hne e.symm)]
   exact hbk
 have d0:w2.cell? ⟨b,0,none⟩=some (.pointer (some ⟨b,0,none⟩)):=by rw [Lib.cell_of_heap hb2];rfl
 have d1:w2.cell? ⟨b,1,none⟩=some v:=by rw [Lib.cell_of_heap hb2];rfl
 have f1:w2.frozen? ⟨b,1,none⟩=false:=Lib.frozen_of_heap hb2 1
 obtain ⟨ao,n',cap,rfl⟩:∃ ao n' cap,v'=.slice ao n' cap:=by
   rcases hown'.2 with ⟨hv,_⟩ | ⟨g,cap,cur,hv,_⟩
   · exact ⟨_,_,_,hv⟩
   · exact ⟨_,_,_,hv⟩
 go_wp2
 go_ret2
 refine ⟨rfl,?_,?_⟩
 · exact Lib.BuilderAt.put (T:=159) (e:=5) hB hb2 (bs':=bs++news) (by simpa [hl] using hown') (by decide)
 · exact (hb1.grown hgrow (by have:=hb1.size;omega) (fun k hk=>(hown.lt k hk).1)).setCell (p:=⟨b,1,none⟩) hB _
end Go.Proofs.YtflopjfnppolgaaGreatDoor
