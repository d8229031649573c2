/-
  Contracts of the functions that the law calls, for every input (Rz Ta Tc Td Te BoxJ BoxI Ts Late).
-/
import Derived.Test.YtlcimajjnfbidaaGreatDoorV00
import Derived.Test.YtlcimajjnfbidaaGreatDoorV28
import Derived.Deep.Cut
import Derived.Test.YtlcimajjnfbidaaGreatDoorV17
import Derived.Test.YtlcimajjnfbidaaGreatDoorV18
import Derived.Test.YtlcimajjnfbidaaGreatDoorV25
import Derived.Deep.QuietTactic
import Derived.BigQuiet
import Derived.StillTailTactics
import Derived.Deep.LoopGhost
import Derived.Test.YtlcimajjnfbidaaGreatDoorV19
import Derived.Test.YtlcimajjnfbidaaGreatDoorV27
import Derived.Test.YtlcimajjnfbidaaGreatDoorV29
import Derived.Test.YtlcimajjnfbidaaGreatDoorV23
import Derived.Test.YtlcimajjnfbidaaGreatDoorV11
import Derived.Test.YtlcimajjnfbidaaGreatDoorV12
import Derived.Test.YtlcimajjnfbidaaGreatDoorV20
import Derived.Test.YtlcimajjnfbidaaGreatDoorV22
import Derived.Deep.RegionHeld3
set_option linter.all false
set_option maxRecDepth 100000
set_option maxHeartbeats 40000000
namespace Go.Proofs.YtlcimajjnfbidaaGreatDoor
open Lib (hid)
open Go.RowKit
open Vx
theorem cell_keep {w w':World} {b:Nat} {v:Value} (h:w.cell? ⟨b,0,none⟩=some v) (hb:Below w.heap.size w w'):w'.cell? ⟨b,0,none⟩=some v:=(hb.cell (p:=⟨b,0,none⟩) (World.block_lt_of_cell? w _ h)).trans h
end Go.Proofs.YtlcimajjnfbidaaGreatDoor
namespace Go.Proofs.YtlcimajjnfbidaaGreatDoor.Rf
open Lib (hid)
open Go.RowKit
open Rx
open Vx (siz siz_num siz_den)
open List renaming getElem?_toArray → lg, getElem?_cons_zero → lz, getElem?_cons_succ → ls, setIfInBounds_toArray → lt, set_cons_zero → ly, set_cons_succ → lu
end Go.Proofs.YtlcimajjnfbidaaGreatDoor.Rf
namespace Go.Proofs.YtlcimajjnfbidaaGreatDoor
open Lib (hid)
open Go.RowKit
open Vx
theorem parse_siz_le (s:ByteArray):siz (parseV s).1≤2*s.size+3:=by
 unfold parseV
 split
 · exact Nat.le_trans (show siz 0≤3 by decide +kernel) (by omega)
 · rename_i h0
   have hsz:s.data.toList.length=s.size:=size_data s
   split
   · exact Nat.le_trans (show siz 0≤3 by decide +kernel) (by omega)
   · rename_i q hq
     have ht:=trim_len s.data.toList [45]
     have c1:=cut_len (Lib.trimPrefix s.data.toList [45]) [47]
     have c2:=cut_len (Lib.trimPrefix s.data.toList [45]) [46]
     unfold parseL at hq
     split at hq
     · split at hq
       · rename_i h1
         obtain rfl:=Option.some.inj hq
         refine Nat.le_trans (siz_mk _ _) ?_
         have n1:=len_valL (dig_all (whole_dig h1.1))
         have n2:=len_valL (dig_all (whole_dig h1.2.1))
         rw [sgn_natAbs]
         omega
       · cases hq
     · split at hq
       · rename_i h1 h2
         obtain rfl:=Option.some.inj hq
         refine Nat.le_trans (siz_mk _ _) ?_
         have hb:(Lib.cut (Lib.trimPrefix s.data.toList [45]) [46]).2.1.all digC=true:=by
           rcases hf:(Lib.cut (Lib.trimPrefix s.data.toList [45]) [46]).2.2 with _ | _
           · rw [cut_none _ _ hf];rfl
           · exact dig_all (h2.2 hf)
         have hab:((Lib.cut (Lib.trimPrefix s.data.toList [45]) [46]).1++(Lib.cut (Lib.trimPrefix s.data.toList [45]) [46]).2.1).all digC=true:=by
           rw [List.all_append,hb,dig_all (whole_dig h2.1)];rfl
         have n1:=len_valL hab
         rw [List.length_append] at n1
         have n2:=len_pow_le 10 (Lib.cut (Lib.trimPrefix s.data.toList [45]) [46]).2.1.length
         have n3:len 10=1:=by decide +kernel
         rw [n3] at n2
         rw [sgn_natAbs]
         omega
       · cases hq
end Go.Proofs.YtlcimajjnfbidaaGreatDoor
namespace Go.Proofs.YtlcimajjnfbidaaGreatDoor
open Lib (hid)
open Go.RowKit
open Vx
open List renaming getElem?_toArray → lg, getElem?_cons_zero → lz, getElem?_cons_succ → ls, setIfInBounds_toArray → lt, set_cons_zero → ly, set_cons_succ → lu
theorem tk {P:Program} {ops:Array Oper} {Q:Exit→Act→World→Prop} {md:Region.Mode} {S:World→Prop} {i:Nat} {oi:Oper} {v:Value} {fuel:Nat} {listed:Array Bool} {a:Act} {w:World} (hi:ops[i]?=some oi:=by simp only [lg,lz,ls];rfl)
   (hb:(Region.noSelect ops && (Region.free md ops listed i && (Region.ready md ops listed).contains i))=true:=by kernel_rfl) (hQ:∀ c a w,Q (.panic c) (a.put oi.dst v) w→Q (.panic c) a w:=by exact fun _ _ _ h=>h) (hS:S w:=by assumption) (hy:YieldsIf P ops S oi v a:=by refine Or.inl ⟨by rfl,?_⟩;intro w hSw;(try dsimp only at hSw);go_simp;try with_reducible rfl)
   (h:wpAnyH P md ops Q S fuel (listed.setIfInBounds i true) (a.put oi.dst v) w):wpAnyH P md ops Q S (fuel+1) listed a w:=by
 rw [Bool.and_eq_true,Bool.and_eq_true] at hb
 exact wpAnyH_take hi hb.1 hb.2.1 hb.2.2 hQ hy hS h
theorem hcall {wB wS w w':World} {N:Nat} (h:Held0 wB N wS w) (e:Hid (wB.heap.size=N)) (hb:Below w.heap.size w w'):Held0 wB N wS w':=Held0.call h (Nat.le_of_eq e.out.symm) hb
theorem at_lt {u:World} {n:Nat} {o:Obj} (h:u.heap[n]?=some o):n<u.heap.size:=(Array.getElem?_eq_some_iff.1 h).1
theorem at_keep {u u':World} {n:Nat} {o:Obj} (h:u.heap[n]?=some o) (hb:Below u.heap.size u u'):u'.heap[n]?=some o:=(hb.block _ (at_lt h)).trans h
end Go.Proofs.YtlcimajjnfbidaaGreatDoor
namespace Go.Proofs.YtlcimajjnfbidaaGreatDoor.Rf
open Lib (hid)
open Go.RowKit
open Rx
open Vx (siz siz_num siz_den)
open List renaming getElem?_toArray → lg, getElem?_cons_zero → lz, getElem?_cons_succ → ls, setIfInBounds_toArray → lt, set_cons_zero → ly, set_cons_succ → lu
def Live (w w':World):Prop:=Stay w w'∧∀ v z,IsBig w v z→IsBig w' v z
theorem Live.refl (w:World):Live w w:=⟨fun _ _ h=>h,fun _ _ h=>h⟩
theorem Live.trans {w w' w'':World} (h:Live w w') (k:Live w' w''):Live w w'':=⟨fun v q a=>k.1 v q (h.1 v q a),fun v q a=>k.2 v q (h.2 v q a)⟩
theorem Live.of_below {w w':World} (h:Below w.heap.size w w'):Live w w':=⟨fun _ _ a=>a.keep h,fun _ _ a=>a.keep h⟩
theorem Live.num {w w':World} {v:Value} {q:Rat} (h:Live w w') (hq:IsNum w v q):IsNum w' v q:=h.1.num hq
theorem Live.box {w w':World} {v:Value} {a b:Rat} (h:Live w w') (hq:IsBox w v a b):IsBox w' v a b:=by
 obtain ⟨v1,v2,v3,v4,e,h1,h2,h3,h4⟩:=hq
 exact ⟨v1,v2,v3,v4,e,h.1 _ _ h1,h.1 _ _ h2,h.1 _ _ h3,h.1 _ _ h4⟩
def IsRBox (w:World) (v:Value) (a b:Rat):Prop :=
  ∃ v1 v2 v3 v4,v=.agg #[.bool (decide (a.num<0)),v1,v2,.bool (decide (b.num<0)),v3,v4]∧IsBig w v1 a.num.natAbs∧IsBig w v2 a.den∧IsBig w v3 b.num.natAbs∧IsBig w v4 b.den
theorem IsRBox.keep {w w':World} {v:Value} {a b:Rat} (h:IsRBox w v a b) (hb:Below w.heap.size w w'):IsRBox w' v a b:=by
 obtain ⟨v1,v2,v3,v4,h0,h1,h2,h3,h4⟩:=h
 exact ⟨v1,v2,v3,v4,h0,h1.keep hb,h2.keep hb,h3.keep hb,h4.keep hb⟩
theorem IsRBox.opened {w:World} {v:Value} {a b:Rat} (h:IsRBox w v a b):∃ A1 c1 A2 c2 A3 c3 A4 c4,
   v=.agg #[.bool (decide (a.num<0)),.slice A1 (len a.num.natAbs) c1,.slice A2 (len a.den) c2,.bool (decide (b.num<0)),.slice A3 (len b.num.natAbs) c3,.slice A4 (len b.den) c4] ∧
   IsRat w (.agg #[.bool (decide (a.num<0)),.slice A1 (len a.num.natAbs) c1,.slice A2 (len a.den) c2]) a∧IsRat w (.agg #[.bool (decide (b.num<0)),.slice A3 (len b.num.natAbs) c3,.slice A4 (len b.den) c4]) b:=by
 obtain ⟨v1,v2,v3,v4,rfl,h1,h2,h3,h4⟩:=h
 obtain ⟨A1,c1,rfl,-⟩:=id h1
 obtain ⟨A2,c2,rfl,-⟩:=id h2
 obtain ⟨A3,c3,rfl,-⟩:=id h3
 obtain ⟨A4,c4,rfl,-⟩:=id h4
 exact ⟨A1,c1,A2,c2,A3,c3,A4,c4,rfl,⟨_,_,rfl,h1,h2⟩,⟨_,_,rfl,h3,h4⟩⟩
theorem IsRat.pair {w:World} {A1 c1 A2 c2 A3 c3 A4 c4} {a b:Rat} {n1 n2 n3 n4:Nat} {s1 s2:Bool} (h1:IsRat w (.agg #[.bool s1,.slice A1 n1 c1,.slice A2 n2 c2]) a) (h2:IsRat w (.agg #[.bool s2,.slice A3 n3 c3,.slice A4 n4 c4]) b) :
   IsRBox w (.agg #[.bool s1,.slice A1 n1 c1,.slice A2 n2 c2,.bool s2,.slice A3 n3 c3,.slice A4 n4 c4]) a b:=by
 obtain ⟨u1,u2,e1,h3,h4⟩:=h1
 obtain ⟨u3,u4,e2,h5,h6⟩:=h2
 simp only [Value.agg.injEq,Array.mk.injEq,List.cons.injEq,Value.bool.injEq,and_true] at e1 e2
 obtain ⟨rfl,rfl,rfl⟩:=e1
 obtain ⟨rfl,rfl,rfl⟩:=e2
 exact ⟨_,_,_,_,rfl,h3,h4,h5,h6⟩
theorem plain6v {b b':Bool} {A1 A2 A3 A4:Option Addr} {n1 c1 n2 c2 n3 c3 n4 c4:Nat}:Plain #[.bool b,.slice A1 n1 c1,.slice A2 n2 c2,.bool b',.slice A3 n3 c3,.slice A4 n4 c4]:=by
 intro i k n
 match i with
 | 0=>simp
 | 1=>simp
 | 2=>simp
 | 3=>simp
 | 4=>simp
 | 5=>simp
 | i+6=>simp
theorem plain_row6 {b b':Bool} {A1 A2 A3 A4:Option Addr} {n1 c1 n2 c2 n3 c3 n4 c4:Nat}:∀ (i:Nat) (k:Int),(#[.bool b,.slice A1 n1 c1,.slice A2 n2 c2,.bool b',.slice A3 n3 c3,.slice A4 n4 c4]:Array Value)[i]?≠some (.int .i64 k):=by
 intro i k
 match i with
 | 0=>simp
 | 1=>simp
 | 2=>simp
 | 3=>simp
 | 4=>simp
 | 5=>simp
 | i+6=>simp
theorem stored3 {w w':World} {b:Nat} {T:TypeId} {s1 t1:Bool} {A1 B1 A2 B2:Option Addr} {n1 c1 m1 d1 n2 c2 m2 d2:Nat} (L:w.heap[b]?=some (.cells #[.bool t1,.slice B1 m1 d1,.slice B2 m2 d2] T (0,0))) (hw:w'=(((w.setCell ⟨b,0,none⟩ (.bool s1)).setCell ⟨b,1,none⟩ (.slice A1 n1 c1)).setCell ⟨b,2,none⟩ (.slice A2 n2 c2))) :
   w'.heap[b]?=some (.cells #[.bool s1,.slice A1 n1 c1,.slice A2 n2 c2] T (0,0))∧(∀ (n:Nat) (o:Obj),n≠b→w.heap[n]?=some o→w'.heap[n]?=some o)∧Live w w'∧(∀ (N:Nat) (wB:World),N≤b→Below N wB w→Below N wB w'):=by
 have g1:=heap_setCell_same w b 0 _ _ (.bool s1) L
 have g2:=heap_setCell_same _ b 1 _ _ (.slice A1 n1 c1) g1
 have g3:=heap_setCell_same _ b 2 _ _ (.slice A2 n2 c2) g2
 have k0:Kept 3 T w b w:=Kept.start rfl (plain3 _ _ _ _ _ _ _) L
 have k1:=k0.set (i:=0) (bool_plain s1)
 have k2:=k1.set (i:=1) (slice_plain A1 n1 c1)
 have S:Stay w w':=by rw [hw];exact ((((Stay.refl w).put k0).put k1).put k2)
 have R:∀ v z,IsBig w v z→IsBig w' v z:=fun v z hv=>by rw [hw];exact (((hv.other (i:=0) (u:=.bool s1) L plain_row).other (i:=1) (u:=.slice A1 n1 c1) g1 plain_row).other (i:=2) (u:=.slice A2 n2 c2) g2 plain_row)
 refine ⟨by rw [hw,g3];rfl,fun n o hne ho=>by rw [hw,heap_setCell_other _ _ _ _ hne,heap_setCell_other _ _ _ _ hne,heap_setCell_other _ _ _ _ hne];exact ho,⟨S,R⟩,fun N wB hN hB=>?_⟩
 rw [hw];exact (((hB.setCell (p:=⟨b,0,none⟩) hN _).setCell (p:=⟨b,1,none⟩) hN _).setCell (p:=⟨b,2,none⟩) hN _)
theorem stored6 {w w':World} {b:Nat} {T:TypeId} {s1 t1 s2 t2:Bool} {A1 B1 A2 B2 A3 B3 A4 B4:Option Addr} {n1 c1 m1 d1 n2 c2 m2 d2 n3 c3 m3 d3 n4 c4 m4 d4:Nat} (L:w.heap[b]?=some (.cells #[.bool t1,.slice B1 m1 d1,.slice B2 m2 d2,.bool t2,.slice B3 m3 d3,.slice B4 m4 d4] T (0,0))) (hw:w'=((((((w.setCell ⟨b,0,none⟩ (.bool s1)).setCell ⟨b,1,none⟩ (.slice A1 n1 c1)).setCell ⟨b,2,none⟩ (.slice A2 n2 c2)).setCell ⟨b,3,none⟩ (.bool s2)).setCell ⟨b,4,none⟩ (.slice A3 n3 c3)).setCell ⟨b,5,none⟩ (.slice A4 n4 c4))) :
   w'.heap[b]?=some (.cells #[.bool s1,.slice A1 n1 c1,.slice A2 n2 c2,.bool s2,.slice A3 n3 c3,.slice A4 n4 c4] T (0,0))∧(∀ (n:Nat) (o:Obj),n≠b→w.heap[n]?=some o→w'.heap[n]?=some o)∧Live w w'∧(∀ (N:Nat) (wB:World),N≤b→Below N wB w→Below N wB w'):=by
 have g1:=heap_setCell_same w b 0 _ _ (.bool s1) L
 have g2:=heap_setCell_same _ b 1 _ _ (.slice A1 n1 c1) g1
 have g3:=heap_setCell_same _ b 2 _ _ (.slice A2 n2 c2) g2
 have g4:=heap_setCell_same _ b 3 _ _ (.bool s2) g3
 have g5:=heap_setCell_same _ b 4 _ _ (.slice A3 n3 c3) g4
 have g6:=heap_setCell_same _ b 5 _ _ (.slice A4 n4 c4) g5
 have k0:Kept 6 T w b w:=Kept.start rfl plain6v L
 have k1:=k0.set (i:=0) (bool_plain s1)
 have k2:=k1.set (i:=1) (slice_plain A1 n1 c1)
 have k3:=k2.set (i:=2) (slice_plain A2 n2 c2)
 have k4:=k3.set (i:=3) (bool_plain s2)
 have k5:=k4.set (i:=4) (slice_plain A3 n3 c3)
 have S:Stay w w':=by rw [hw];exact (((((((Stay.refl w).put k0).put k1).put k2).put k3).put k4).put k5)
 have R:∀ v z,IsBig w v z→IsBig w' v z:=fun v z hv=>by rw [hw];exact ((((((hv.other (i:=0) (u:=.bool s1) L plain_row6).other (i:=1) (u:=.slice A1 n1 c1) g1 plain_row6).other (i:=2) (u:=.slice A2 n2 c2) g2 plain_row6).other (i:=3) (u:=.bool s2) g3 plain_row6).other (i:=4) (u:=.slice A3 n3 c3) g4 plain_row6).other (i:=5) (u:=.slice A4 n4 c4) g5 plain_row6)
 refine ⟨by rw [hw,g6];rfl,fun n o hne ho=>by rw [hw,heap_setCell_other _ _ _ _ hne,heap_setCell_other _ _ _ _ hne,heap_setCell_other _ _ _ _ hne,heap_setCell_other _ _ _ _ hne,heap_setCell_other _ _ _ _ hne,heap_setCell_other _ _ _ _ hne];exact ho,⟨S,R⟩,fun N wB hN hB=>?_⟩
 rw [hw];exact ((((((hB.setCell (p:=⟨b,0,none⟩) hN _).setCell (p:=⟨b,1,none⟩) hN _).setCell (p:=⟨b,2,none⟩) hN _).setCell (p:=⟨b,3,none⟩) hN _).setCell (p:=⟨b,4,none⟩) hN _).setCell (p:=⟨b,5,none⟩) hN _)
end Go.Proofs.YtlcimajjnfbidaaGreatDoor.Rf
namespace Go.Proofs.YtlcimajjnfbidaaGreatDoor.Rf
open Lib (hid)
open Go.RowKit
open Rx
open Vx (siz siz_num siz_den)
open List renaming getElem?_toArray → lg, getElem?_cons_zero → lz, getElem?_cons_succ → ls, setIfInBounds_toArray → lt, set_cons_zero → ly, set_cons_succ → lu
theorem cmpQ_le0 {x y:Rat}:cmpQ x y≤0↔x≤y:=by
 unfold cmpQ
 rcases Decidable.em (x<y) with h | h
 · rw [if_pos h];exact ⟨fun _=>Rat.le_of_lt h,fun _=>by decide⟩
 · rw [if_neg h]
   rcases Decidable.em (x=y) with k | k
   · rw [if_pos k];exact ⟨fun _=>k ▸ Rat.le_refl,fun _=>by decide⟩
   · rw [if_neg k];exact ⟨fun a=>absurd a (by decide),fun a=>absurd (Rat.le_antisymm a (Rat.not_lt.1 h)) k⟩
end Go.Proofs.YtlcimajjnfbidaaGreatDoor.Rf
namespace Go.Proofs.YtlcimajjnfbidaaGreatDoor
open Lib (hid)
open Go.RowKit
open Vx
theorem cmpQ_le0 {x y:Rat}:cmpQ x y≤0↔x≤y:=by
 constructor
 · intro h
   rcases Decidable.em (x≤y) with h2 | h2
   · exact h2
   · have:=cmpQ_gt h2;omega
 · intro h
   have:=cmpQ_le h;omega
theorem boxHas_any {w:World} {v vx:Value} {a b x:Rat} (hv:IsBox w v a b) (hx:IsNum w vx x) (sa:siz a≤34359738368) (sb:siz b≤34359738368) (sx:siz x≤34359738368) :
   Calls Tryz.prog 48 #[v,vx] w (BoolRet w (decide (a≤x∧x≤b))):=by
 obtain ⟨A1,c1,A2,c2,A3,c3,A4,c4,rfl,ha,hb_⟩:=hv.opened
 obtain ⟨A5,c5,A6,c6,rfl,-,-⟩:=id hx.opened
 obtain ⟨wB,hwB⟩:=eX ((w.alloc (.cells #[.bool (decide (a.num<0)),.slice A1 (len a.num.natAbs) c1,.slice A2 (len (below a.den)) c2,.bool (decide (b.num<0)),.slice A3 (len b.num.natAbs) c3,.slice A4 (len (below b.den)) c4] 48)).alloc (.cells #[.bool (decide (x.num<0)),.slice A5 (len x.num.natAbs) c5,.slice A6 (len (below x.den)) c6] 31))
 obtain ⟨b0,g0,g1⟩:=news2' hwB
 obtain ⟨k0,k1,k2,k3,k4,k5⟩:=cells6 g0
 obtain ⟨k6,k7,k8⟩:=cells3 g1
 have HB0:=hid b0
 have hlt1:w.heap.size<wB.heap.size:=World.block_lt_of_cell? _ _ k0
 have hlt2:w.heap.size+1<wB.heap.size:=(Array.getElem?_eq_some_iff.1 g1).1
 clear g0 g1 b0
 have HX:=hid (numCmp_any (ha.keep HB0.out) (hx.keep HB0.out) sa sx)
 have HY:=fun (w1:World) (hb:Below wB.heap.size wB w1)=>hid (numCmp_any ((hx.keep HB0.out).keep hb) ((hb_.keep HB0.out).keep hb) sx sb)
 obtain ⟨z1,hz1⟩:=eX (cmpQ a x:Int)
 obtain ⟨z2,hz2⟩:=eX (cmpQ x b:Int)
 have e1:(z1≤0)↔a≤x:=by rw [hz1];exact cmpQ_le0
 have e2:(z2≤0)↔x≤b:=by rw [hz2];exact cmpQ_le0
 rw [←hz1] at HX
 rw [←hz2] at HY
 obtain ⟨r,hr⟩:=eX (decide (a≤x∧x≤b):Bool)
 rw [←hr]
 clear hz1 hz2 sa sb sx hv ha hb_ hx
 rcases Decidable.em (z1≤0) with h1 | h1
 · rcases Decidable.em (z2≤0) with h2 | h2
   · have d1:decide (z1≤0)=true:=decide_eq_true h1
     have d2:decide (z2≤0)=true:=decide_eq_true h2
     have d3:r=true:=by rw [hr];exact decide_eq_true ⟨e1.1 h1,e2.1 h2⟩
     subst d3
     replace h1:=hid h1
     replace h2:=hid h2
     clear hr e1 e2
     go_enter Tryz.func48,Tryz.ntmps48
     go_upto_region 1 with fail
     rw [←hwB]
     clear hwB
     go_wp2_with fail
     refine (HX.out).mono ?_
     rintro e w1 ⟨rfl,b1⟩
     have hbc:=below_cell b1
     have HY1:=HY w1 b1
     have HB1:=hid (Go.Proofs.YtlcimajjnfbidaaGreatDoor.below_to HB0.out (Nat.le_of_lt hlt1) b1)
     clear HY HX b1
     go_wp2_with fail
     refine (HY1.out).mono ?_
     rintro e w2 ⟨rfl,b2⟩
     have HE:=hid (HB1.out.trans (b2.mono HB1.out.size))
     clear HY1 b2 hbc
     go_wp2_with fail
     go_ret
     exact ⟨rfl,HE.out⟩
   · have d1:decide (z1≤0)=true:=decide_eq_true h1
     have d2:decide (z2≤0)=false:=decide_eq_false h2
     have d3:r=false:=by rw [hr];exact decide_eq_false (fun h=>h2 (e2.2 h.2))
     subst d3
     replace h1:=hid h1
     replace h2:=hid h2
     clear hr e1 e2
     go_enter Tryz.func48,Tryz.ntmps48
     go_upto_region 1 with fail
     rw [←hwB]
     clear hwB
     go_wp2_with fail
     refine (HX.out).mono ?_
     rintro e w1 ⟨rfl,b1⟩
     have hbc:=below_cell b1
     have HY1:=HY w1 b1
     have HB1:=hid (Go.Proofs.YtlcimajjnfbidaaGreatDoor.below_to HB0.out (Nat.le_of_lt hlt1) b1)
     clear HY HX b1
     go_wp2_with fail
     refine (HY1.out).mono ?_
     rintro e w2 ⟨rfl,b2⟩
     have HE:=hid (HB1.out.trans (b2.mono HB1.out.size))
     clear HY1 b2 hbc
     go_wp2_with fail
     go_ret
     exact ⟨rfl,HE.out⟩
 · have d1:decide (z1≤0)=false:=decide_eq_false h1
   have d2:r=false:=by rw [hr];exact decide_eq_false (fun h=>h1 (e1.2 h.1))
   subst d2
   replace h1:=hid h1
   clear HY hr e1 e2
   go_enter Tryz.func48,Tryz.ntmps48
   go_upto_region 1 with fail
   rw [←hwB]
   clear hwB
   go_wp2_with fail
   refine (HX.out).mono ?_
   rintro e w1 ⟨rfl,b1⟩
   have HE:=hid (Go.Proofs.YtlcimajjnfbidaaGreatDoor.below_to HB0.out (Nat.le_of_lt hlt1) b1)
   clear HX b1
   go_wp2_with fail
   go_ret
   exact ⟨rfl,HE.out⟩
theorem boxInside_any {w:World} {v u:Value} {a b c d:Rat} (hv:IsBox w v a b) (hu:IsBox w u c d) (sa:siz a≤34359738368) (sb:siz b≤34359738368) (sc:siz c≤34359738368) (sd:siz d≤34359738368) :
   Calls Tryz.prog 49 #[v,u] w (BoolRet w (decide (c≤a∧b≤d))):=by
 obtain ⟨A1,c1,A2,c2,A3,c3,A4,c4,rfl,ha,hb_⟩:=hv.opened
 obtain ⟨A5,c5,A6,c6,A7,c7,A8,c8,rfl,hc,hd⟩:=hu.opened
 obtain ⟨wB,hwB⟩:=eX ((w.alloc (.cells #[.bool (decide (a.num<0)),.slice A1 (len a.num.natAbs) c1,.slice A2 (len (below a.den)) c2,.bool (decide (b.num<0)),.slice A3 (len b.num.natAbs) c3,.slice A4 (len (below b.den)) c4] 48)).alloc (.cells #[.bool (decide (c.num<0)),.slice A5 (len c.num.natAbs) c5,.slice A6 (len (below c.den)) c6,.bool (decide (d.num<0)),.slice A7 (len d.num.natAbs) c7,.slice A8 (len (below d.den)) c8] 48))
 obtain ⟨b0,g0,g1⟩:=news2' hwB
 obtain ⟨k0,k1,k2,k3,k4,k5⟩:=cells6 g0
 obtain ⟨k6,k7,k8,k9,k10,k11⟩:=cells6 g1
 have HB0:=hid b0
 have hlt1:w.heap.size<wB.heap.size:=World.block_lt_of_cell? _ _ k0
 have hlt2:w.heap.size+1<wB.heap.size:=(Array.getElem?_eq_some_iff.1 g1).1
 clear g0 g1 b0
 have HX:=hid (numCmp_any (hc.keep HB0.out) (ha.keep HB0.out) sc sa)
 have HY:=fun (w1:World) (hb:Below wB.heap.size wB w1)=>hid (numCmp_any ((hb_.keep HB0.out).keep hb) ((hd.keep HB0.out).keep hb) sb sd)
 obtain ⟨z1,hz1⟩:=eX (cmpQ c a:Int)
 obtain ⟨z2,hz2⟩:=eX (cmpQ b d:Int)
 have e1:(z1≤0)↔c≤a:=by rw [hz1];exact cmpQ_le0
 have e2:(z2≤0)↔b≤d:=by rw [hz2];exact cmpQ_le0
 rw [←hz1] at HX
 rw [←hz2] at HY
 obtain ⟨r,hr⟩:=eX (decide (c≤a∧b≤d):Bool)
 rw [←hr]
 clear hz1 hz2 sa sb sc sd hv hu ha hb_ hc hd
 rcases Decidable.em (z1≤0) with h1 | h1
 · rcases Decidable.em (z2≤0) with h2 | h2
   · have d1:decide (z1≤0)=true:=decide_eq_true h1
     have d2:decide (z2≤0)=true:=decide_eq_true h2
     have d3:r=true:=by rw [hr];exact decide_eq_true ⟨e1.1 h1,e2.1 h2⟩
     subst d3
     replace h1:=hid h1
     replace h2:=hid h2
     clear hr e1 e2
     go_enter Tryz.func49,Tryz.ntmps49
     go_upto_region 1 with fail
     rw [←hwB]
     clear hwB
     go_wp2_with fail
     refine (HX.out).mono ?_
     rintro e w1 ⟨rfl,b1⟩
     have hbc:=below_cell b1
     have HY1:=HY w1 b1
     have HB1:=hid (Go.Proofs.YtlcimajjnfbidaaGreatDoor.below_to HB0.out (Nat.le_of_lt hlt1) b1)
     clear HY HX b1
     go_wp2_with fail
     refine (HY1.out).mono ?_
     rintro e w2 ⟨rfl,b2⟩
     have HE:=hid (HB1.out.trans (b2.mono HB1.out.size))
     clear HY1 b2 hbc
     go_wp2_with fail
     go_ret
     exact ⟨rfl,HE.out⟩
   · have d1:decide (z1≤0)=true:=decide_eq_true h1
     have d2:decide (z2≤0)=false:=decide_eq_false h2
     have d3:r=false:=by rw [hr];exact decide_eq_false (fun h=>h2 (e2.2 h.2))
     subst d3
     replace h1:=hid h1
     replace h2:=hid h2
     clear hr e1 e2
     go_enter Tryz.func49,Tryz.ntmps49
     go_upto_region 1 with fail
     rw [←hwB]
     clear hwB
     go_wp2_with fail
     refine (HX.out).mono ?_
     rintro e w1 ⟨rfl,b1⟩
     have hbc:=below_cell b1
     have HY1:=HY w1 b1
     have HB1:=hid (Go.Proofs.YtlcimajjnfbidaaGreatDoor.below_to HB0.out (Nat.le_of_lt hlt1) b1)
     clear HY HX b1
     go_wp2_with fail
     refine (HY1.out).mono ?_
     rintro e w2 ⟨rfl,b2⟩
     have HE:=hid (HB1.out.trans (b2.mono HB1.out.size))
     clear HY1 b2 hbc
     go_wp2_with fail
     go_ret
     exact ⟨rfl,HE.out⟩
 · have d1:decide (z1≤0)=false:=decide_eq_false h1
   have d2:r=false:=by rw [hr];exact decide_eq_false (fun h=>h1 (e1.2 h.1))
   subst d2
   replace h1:=hid h1
   clear HY hr e1 e2
   go_enter Tryz.func49,Tryz.ntmps49
   go_upto_region 1 with fail
   rw [←hwB]
   clear hwB
   go_wp2_with fail
   refine (HX.out).mono ?_
   rintro e w1 ⟨rfl,b1⟩
   have HE:=hid (Go.Proofs.YtlcimajjnfbidaaGreatDoor.below_to HB0.out (Nat.le_of_lt hlt1) b1)
   clear HX b1
   go_wp2_with fail
   go_ret
   exact ⟨rfl,HE.out⟩
end Go.Proofs.YtlcimajjnfbidaaGreatDoor
namespace Go.Proofs.YtlcimajjnfbidaaGreatDoor
open Lib (hid)
open Go.RowKit
open Vx
theorem boxAdd_any {w:World} {v0:Value} {v1:Value} {a b:Rat} {c d:Rat} (hv:IsBox w v0 a b) (hu:IsBox w v1 c d) (sa:siz a≤34359738368) (sb:siz b≤34359738368) (sc:siz c≤34359738368) (sd:siz d≤34359738368) :
   Calls Tryz.prog 17 #[v0,v1] w (BoxRet w (a+c) (b+d)):=by
 obtain ⟨A1,c1,A2,c2,A3,c3,A4,c4,rfl,ha,hb⟩:=hv.opened
 obtain ⟨A5,c5,A6,c6,A7,c7,A8,c8,rfl,hc,hd⟩:=hu.opened
 obtain ⟨wB,hwB⟩:=eX (((w.alloc (.cells #[.bool (decide (a.num<0)),.slice A1 (len a.num.natAbs) c1,.slice A2 (len (below a.den)) c2,.bool (decide (b.num<0)),.slice A3 (len b.num.natAbs) c3,.slice A4 (len (below b.den)) c4] 48)).alloc (.cells #[.bool (decide (c.num<0)),.slice A5 (len c.num.natAbs) c5,.slice A6 (len (below c.den)) c6,.bool (decide (d.num<0)),.slice A7 (len d.num.natAbs) c7,.slice A8 (len (below d.den)) c8] 48)).alloc (.cells #[.bool false,.slice none 0 0,.slice none 0 0,.bool false,.slice none 0 0,.slice none 0 0] 48))
 obtain ⟨b0,g0,g1,g2⟩:=news3' hwB
 obtain ⟨k0,k1,k2,k3,k4,k5⟩:=cells6 g0
 obtain ⟨k6,k7,k8,k9,k10,k11⟩:=cells6 g1
 have HK0:=hid (Kept.start (T:=48) rfl plain6 g2)
 have HB0:=hid b0
 have hlt1:w.heap.size<w.heap.size+2:=by omega
 have hlt2:w.heap.size+1<w.heap.size+2:=by omega
 clear g0 g1 g2 b0
 obtain ⟨qq,eq⟩:=eX (a+c:Rat)
 obtain ⟨rr,er⟩:=eX (b+d:Rat)
 have HX:=fun (w':World) (hk:Held6 wB (w.heap.size+2) wB w')=>hid (numAdd_any (hk.stay.num (ha.keep HB0.out)) (hk.stay.num (hc.keep HB0.out)) sa sc)
 have HY:=fun (w':World) (hk:Held6 wB (w.heap.size+2) wB w')=>hid (numAdd_any (hk.stay.num (hb.keep HB0.out)) (hk.stay.num (hd.keep HB0.out)) sb sd)
 rw [←eq] at HX ⊢
 rw [←er] at HY ⊢
 have H0:=HK0.out.begin6
 have H0':=H0
 unfold Held6 at H0'
 clear eq er hv ha hb hu hc hd sa sb sc sd
 go_enter Tryz.func17,Tryz.ntmps17
 go_upto_region 1 with fail
 rw [←hwB]
 clear hwB
 go_wp2_with fail
 go_region_held3 (fun w'=>(∀ b o,b<w.heap.size+2→w'.cell? ⟨b,o,none⟩=wB.cell? ⟨b,o,none⟩)∧w'.cell? ⟨w.heap.size+2,0,none⟩=some (cur w' ⟨w.heap.size+2,0,none⟩)∧w'.cell? ⟨w.heap.size+2,1,none⟩=some (cur w' ⟨w.heap.size+2,1,none⟩)∧w'.cell? ⟨w.heap.size+2,2,none⟩=some (cur w' ⟨w.heap.size+2,2,none⟩)∧w'.cell? ⟨w.heap.size+2,3,none⟩=some (cur w' ⟨w.heap.size+2,3,none⟩)∧w'.cell? ⟨w.heap.size+2,4,none⟩=some (cur w' ⟨w.heap.size+2,4,none⟩)∧w'.cell? ⟨w.heap.size+2,5,none⟩=some (cur w' ⟨w.heap.size+2,5,none⟩)∧w'.frozen? ⟨w.heap.size+2,0,none⟩=false∧w'.frozen? ⟨w.heap.size+2,1,none⟩=false∧w'.frozen? ⟨w.heap.size+2,2,none⟩=false∧w'.frozen? ⟨w.heap.size+2,3,none⟩=false∧w'.frozen? ⟨w.heap.size+2,4,none⟩=false∧w'.frozen? ⟨w.heap.size+2,5,none⟩=false∧Kept 6 48 wB (w.heap.size+2) w'∧Stay wB w')
   (first | with_reducible exact H0' | with_reducible exact hk1' | with_reducible exact hk2' | exact hk2.store)
   (first | (go_at_call 45;refine ((HY _ hk1).out).mono ?_;rintro e w2 ⟨v2,rfl,hv2,hbl2⟩;obtain ⟨C3,j3,C4,j4,rfl,-,-⟩:=id hv2.opened;have hk2:=hk1.call hbl2;have hk2':=hk2;unfold Held6 at hk2') | (go_at_call 45;refine ((HX _ H0).out).mono ?_;rintro e w1 ⟨v1,rfl,hv1,hbl1⟩;obtain ⟨C1,j1,C2,j2,rfl,-,-⟩:=id hv1.opened;have hk1:=H0.call hbl1;have hk1':=hk1;unfold Held6 at hk1'))
 rename_i hHl
 clear hHl
 have hv1':=hv1.keep hbl2
 have HD:=hk2.done (p:=qq) (q:=rr) (s1:=decide (qq.num<0)) (A1:=C1) (n1:=len qq.num.natAbs) (c1:=j1) (A2:=C2) (n2:=len (below qq.den)) (c2:=j2) (s2:=decide (rr.num<0)) (A3:=C3) (n3:=len rr.num.natAbs) (c3:=j3) (A4:=C4) (n4:=len (below rr.den)) (c4:=j4) (hv1') (hv2)
 obtain ⟨d1,d2,d3⟩:=HD
 obtain ⟨r0,r1,r2,r3,r4,r5⟩:=cells6 d3
 have HD:=hid (And.intro d1 d2)
 clear d1 d2 d3
 go_wp2_with fail
 refine bodyPost_ret (v:=.agg #[.bool (decide (qq.num<0)),.slice (C1) (len qq.num.natAbs) (j1),.slice (C2) (len (below qq.den)) (j2),.bool (decide (rr.num<0)),.slice (C3) (len rr.num.natAbs) (j3),.slice (C4) (len (below rr.den)) (j4)]) ?_ rfl ⟨_,rfl,HD.out.1,below_to HB0.out (by omega) HD.out.2⟩
 simp [results,Tryz.results17,go_sem,r0,r1,r2,r3,r4,r5]
theorem boxWidth_any {w:World} {v:Value} {a b:Rat} (hv:IsBox w v a b) (sa:siz a≤34359738368) (sb:siz b≤34359738368) :
   Calls Tryz.prog 82 #[v] w (NumRet w (b - a)):=by
 obtain ⟨A1,c1,A2,c2,A3,c3,A4,c4,rfl,ha,hb⟩:=hv.opened
 obtain ⟨wB,hwB⟩:=eX ((w.alloc (.cells #[.bool (decide (a.num<0)),.slice A1 (len a.num.natAbs) c1,.slice A2 (len (below a.den)) c2,.bool (decide (b.num<0)),.slice A3 (len b.num.natAbs) c3,.slice A4 (len (below b.den)) c4] 48)).alloc (.cells #[.bool false,.slice none 0 0,.slice none 0 0] 31))
 obtain ⟨b0,g0,g1⟩:=news2' hwB
 obtain ⟨k0,k1,k2,k3,k4,k5⟩:=cells6 g0
 have HK0:=hid (Kept.start (T:=31) rfl (plain3 _ _ _ _ _ _ _) g1)
 have HB0:=hid b0
 have hlt1:w.heap.size<w.heap.size+1:=by omega
 clear g0 g1 b0
 obtain ⟨q,hq⟩:=eX (b - a:Rat)
 have HX:=hid (numSub_any (hb.keep HB0.out) (ha.keep HB0.out) sb sa)
 rw [←hq] at HX ⊢
 clear hq sa sb hv ha hb
 go_enter Tryz.func82,Tryz.ntmps82
 go_upto_region 1 with fail
 rw [←hwB]
 clear hwB
 go_wp2_with fail
 refine (HX.out).mono ?_
 rintro e w5 ⟨v5,rfl,hv5,b5⟩
 obtain ⟨C1,j1,C2,j2,rfl,-,-⟩:=hv5.opened
 have hk:=(HK0.out.call b5).held (Stay.refl _)
 clear b5 HX
 obtain ⟨-,c0,c1',c2',f0,f1,f2,-⟩:=id hk
 have HD:=hk.done (q:=q) (b:=decide (q.num<0)) (A1:=C1) (n1:=len q.num.natAbs) (c1:=j1) (A2:=C2) (n2:=len (below q.den)) (c2:=j2) (hv5)
 obtain ⟨d1,d2,d3⟩:=HD
 obtain ⟨r0,r1,r2⟩:=cells3 d3
 have HD:=hid (And.intro d1 d2)
 clear d1 d2 d3
 go_wp2_with fail
 refine bodyPost_ret (v:=.agg #[.bool (decide (q.num<0)),.slice (C1) (len q.num.natAbs) (j1),.slice (C2) (len (below q.den)) (j2)]) ?_ rfl ⟨_,rfl,HD.out.1,below_to HB0.out (by omega) HD.out.2⟩
 simp [results,Tryz.results82,go_sem,r0,r1,r2]
end Go.Proofs.YtlcimajjnfbidaaGreatDoor
namespace Go.Proofs.YtlcimajjnfbidaaGreatDoor.Rf
open Lib (hid)
open Go.RowKit
theorem newz1 {w u:World} {o:Obj} (h:u=w.alloc o):u.heap[w.heap.size]?=some o:=h ▸ heap_alloc_new w o
theorem newb1 {w u:World} {o:Obj} (h:u=w.alloc o):Below w.heap.size w u:=h ▸ alloc_below w o
theorem newz2 {w u:World} {o1 o2:Obj} (h:u=(w.alloc o1).alloc o2):Below w.heap.size w u∧u.heap[w.heap.size]?=some o1∧u.heap[w.heap.size+1]?=some o2:=h ▸ news2 w o1 o2
end Go.Proofs.YtlcimajjnfbidaaGreatDoor.Rf
namespace Go.Proofs.YtlcimajjnfbidaaGreatDoor.Rf
open Lib (hid)
open Go.RowKit
def late (P:Program) (ops:Array Oper) (Q:Exit→Act→World→Prop) (s:Nat) (e:Exit) (a:Act) (w:World):Prop :=
  match e with
  | .normal=>wpOp P ops Q s (Q .normal) a w
  | e=>Q e a w
theorem wp_late {P:Program} {ops:Array Oper} {Q:Exit→Act→World→Prop} {s:Nat} {o:Oper} {a:Act} {w:World} {K:Act→World→Prop}:o.wp P a w K (late P ops Q s)=o.wp P a w K Q:=by
 unfold Oper.wp Oper.upon
 split <;> rfl
theorem op_late {P:Program} {ops:Array Oper} {Q:Exit→Act→World→Prop} {s i:Nat} {o d:Oper} (ho:ops[s]?=some o) (hds:d.dst=o.dst) (hne:i≠s) {a:Act} {w:World} {K:Act→World→Prop} :
   wpOp P (ops.setIfInBounds s d) (late P ops Q s) i K a w=wpOp P ops Q i K a w:=by
 have hg:(ops.setIfInBounds s d)[i]?=ops[i]?:=Array.getElem?_setIfInBounds_ne (Ne.symm hne)
 have hy:yielded (ops.setIfInBounds s d) a.tmps=yielded ops a.tmps:=by
   funext j
   unfold yielded
   rcases Nat.decEq s j with h | h
   · rw [Array.getElem?_setIfInBounds_ne h]
   · subst h
     have hlt:s<ops.size:=(Array.getElem?_eq_some_iff.1 ho).1
     rw [Array.getElem?_setIfInBounds_self_of_lt hlt,ho]
     simp only [Option.bind_some,hds]
 unfold wpOp
 rw [hg,hy]
 cases ops[i]? with
 | none=>rfl
 | some x=>dsimp only;rw [wp_late];rfl
theorem ready_late {ops:Array Oper} {md:Region.Mode} {s:Nat} {o d:Oper} (ho:ops[s]?=some o) (hda:d.after=o.after) (listed:Array Bool):Region.ready md (ops.setIfInBounds s d) listed=Region.ready md ops listed:=by
 have hlt:s<ops.size:=(Array.getElem?_eq_some_iff.1 ho).1
 unfold Region.ready
 rw [Array.size_setIfInBounds]
 congr 1
 funext i
 rcases Nat.decEq s i with h | h
 · rw [Array.getElem?_setIfInBounds_ne h]
 · subst h
   rw [Array.getElem?_setIfInBounds_self_of_lt hlt,ho]
   simp only [Option.map_some,hda]
def lastB (md:Region.Mode) (ops:Array Oper) (s:Nat):Bool :=
  (List.range ops.size).all fun i=>match ops[i]? with
    | some x=>x.after.all (fun e => !Region.binds md e || decide (e.on<i)) && (decide (i=s) || (match ops[s]? with | some y=>y.after.any fun e=>Region.binds md e && decide (e.on=i) | none=>false))
    | none=>true
theorem some_ready {ops:Array Oper} {md:Region.Mode} {listed:Array Bool} (hl:listed.size=ops.size) (h:∀ i x,ops[i]?=some x→∀ e∈x.after,Region.binds md e=true→e.on<i) :
   ∀ n s,s≤n→s<ops.size→listed.getD s true=false→Region.ready md ops listed≠[]:=by
 intro n
 induction n with
 | zero =>
   intro s hs hlt hu
   obtain rfl:s=0:=by omega
   intro h0
   have:0∈Region.ready md ops listed:=mem_ready.2 ⟨hu,ops[0],by simp [hlt],fun e he hb=>absurd (h 0 _ (by simp [hlt]) e he hb) (by omega)⟩
   rw [h0] at this
   cases this
 | succ n ih =>
   intro s hs hlt hu
   rcases Decidable.em (∃ j,j<s∧listed.getD j true=false) with ⟨j,hj,hju⟩ | hall
   · exact ih j (by omega) (by omega) hju
   · intro h0
     have:s∈Region.ready md ops listed:=mem_ready.2 ⟨hu,ops[s],by simp [hlt],fun e he hb=>by
       have h1:=h s _ (by simp [hlt]) e he hb
       have h2:¬ listed.getD e.on true=false:=fun k=>hall ⟨_,h1,k⟩
       have h3:e.on<listed.size:=by omega
       simp only [Array.getD,h3,dif_pos] at h2 ⊢
       simpa using h2⟩
     rw [h0] at this
     cases this
theorem any_late {P:Program} {ops:Array Oper} {Q:Exit→Act→World→Prop} {md:Region.Mode} {s:Nat} {o d:Oper} {v:Value} (ho:ops[s]?=some o) (hds:d.dst=o.dst) (hd0:d.dst=none) (hda:d.after=o.after) (hdg:d.guard=none)
   (hrun:∀ (a:Act) (w:World),(execOp a.eval d).run P w=.ok (.value v) w) (hask:∀ a w,¬ d.asks P a w)
   (hlow:∀ i x,ops[i]?=some x→∀ e∈x.after,Region.binds md e=true→e.on<i) (hall:∀ j,j≠s→j<ops.size→∃ e∈o.after,Region.binds md e=true∧e.on=j) :
   ∀ (fuel:Nat) (listed:Array Bool) (a:Act) (w:World),listed.size=ops.size→listed.getD s true=false →
     wpAny P md (ops.setIfInBounds s d) (late P ops Q s) fuel listed a w→wpAny P md ops Q fuel listed a w:=by
 have hlt:s<ops.size:=(Array.getElem?_eq_some_iff.1 ho).1
 intro fuel
 induction fuel with
 | zero =>
   intro listed a w hsz hu h
   have:=h.1
   rw [ready_late ho hda] at this
   exact absurd this (some_ready hsz hlow s s (Nat.le_refl _) hlt hu)
 | succ fuel ih =>
   intro listed a w hsz hu h
   refine ⟨fun h0=>absurd h0 (some_ready hsz hlow s s (Nat.le_refl _) hlt hu),fun i hi=>?_⟩
   have h1:=h.2 i (by rw [ready_late ho hda];exact hi)
   rcases Nat.decEq i s with hne | rfl
   · rw [op_late ho hds hne] at h1
     refine wpOp_mono (fun a' w' k=>ih _ a' w' (by rw [Array.size_setIfInBounds];exact hsz) (by rw [getD_set_ne true hne];exact hu) k) h1
   · -- the last one: all others are listed
     obtain ⟨hun,o',ho',hw⟩:=mem_ready.1 hi
     obtain rfl:o'=o:=Option.some.inj (ho'.symm.trans ho)
     have hdone:Region.ready md ops (listed.setIfInBounds i true)=[]:=by
       rw [List.eq_nil_iff_forall_not_mem]
       intro j hj
       obtain ⟨hj0,x,hx,-⟩:=mem_ready.1 hj
       rcases Nat.decEq j i with hji | rfl
       · have hjlt:j<ops.size:=(Array.getElem?_eq_some_iff.1 hx).1
         obtain ⟨e,he,hb,rfl⟩:=hall j hji hjlt
         have h2:=hw e he hb
         rw [getD_set_ne true (Ne.symm hji)] at hj0
         have h3:e.on<listed.size:=by omega
         simp only [Array.getD,h3,dif_pos] at h2 hj0
         rw [h2] at hj0
         cases hj0
       · have h3:j<listed.size:=by omega
         simp [h3] at hj0
     -- what the dummy leaves
     have hK:wpOp P ops Q i (Q .normal) a w:=by
       unfold wpOp at h1
       rw [Array.getElem?_setIfInBounds_self_of_lt hlt] at h1
       dsimp only at h1
       rw [if_pos (by simp [Region.wanted,hdg])] at h1
       rcases h1 with h1 | ⟨h1,-⟩
       · unfold Oper.wp at h1
         rw [hrun,Oper.upon_value,hd0] at h1
         have h1':wpAny P md (ops.setIfInBounds i d) (late P ops Q i) fuel (listed.setIfInBounds i true) a w:=h1
         have hr:Region.ready md (ops.setIfInBounds i d) (listed.setIfInBounds i true)=[]:=by rw [ready_late ho hda];exact hdone
         cases fuel with
         | zero=>exact h1'.2
         | succ f=>exact h1'.1 hr
       · exact absurd h1 (hask a w)
     exact wpOp_mono (fun a' w' k=>wpAny_done hdone k fuel) hK
def idle (o:Oper):Oper:={ o with op:=.move (.const (.bool false)),dst:=none,guard:=none }
theorem idle_run {P:Program} (o:Oper) (a:Act) (w:World):(execOp a.eval (idle o)).run P w=.ok (.value (.bool false)) w:=by
 simp [idle,execOp,go_sem]
theorem idle_ask {P:Program} (o:Oper) (a:Act) (w:World):¬ (idle o).asks P a w:=by
 intro h
 have h1:=h.1
 simp [idle,execOp,go_sem] at h1
 have h2:noRoomEvent∈(#[]:Array Event):=h1
 simp at h2
theorem region_late {P:Program} {id s:Nat} {ops:Array Oper} {Q:Exit→Act→World→Prop} {o:Oper} {S:World→Prop} {a:Act} {w:World} (hm:P.follows .mixedOrders=true) (ho:ops[s]?=some o) (hd0:o.dst=none)
   (hl:lastB .any ops s=true)
   (h:wpAnyH P .any (ops.setIfInBounds s (idle o)) (late P ops Q s) S ops.size (Array.replicate ops.size false) a w.drew):(Code.region id ops true).wp P Q a w:=by
 have hlt:s<ops.size:=(Array.getElem?_eq_some_iff.1 ho).1
 have hl':=fun i (hi:i<ops.size)=>List.all_eq_true.1 hl i (List.mem_range.2 hi)
 refine wp_region_any hm (any_late (d:=idle o) ho hd0.symm rfl rfl rfl (fun a w=>idle_run o a w) (fun a w=>idle_ask o a w) ?_ ?_ _ _ _ _ (by simp) (by simp [hlt]) (wpAny_of_held _ _ _ _ h))
 · intro i x hx e he hb
   have h1:=hl' i (Array.getElem?_eq_some_iff.1 hx).1
   rw [hx] at h1
   simp only [Bool.and_eq_true] at h1
   have h2:=Array.all_eq_true_iff_forall_mem.1 h1.1 e he
   simpa [hb] using h2
 · intro j hj hjl
   have h1:=hl' j hjl
   rw [show ops[j]?=some ops[j] by simp [hjl],ho] at h1
   simp only [Bool.and_eq_true,Bool.or_eq_true,decide_eq_true_eq,hj,false_or] at h1
   obtain ⟨q,hq,h2⟩:=Array.any_eq_true.1 h1.2
   simp only [Bool.and_eq_true,decide_eq_true_eq] at h2
   exact ⟨_,Array.getElem_mem hq,h2.1,h2.2⟩
theorem late_do {P:Program} {ops:Array Oper} {Q:Exit→Act→World→Prop} {s:Nat} {o:Oper} {a:Act} {w:World} (ho:ops[s]?=some o) (hg:o.guard=none) (h:o.wp P a w (Q .normal) Q):late P ops Q s .normal a w:=by
 show wpOp P ops Q s (Q .normal) a w
 unfold wpOp
 rw [ho]
 dsimp only
 rw [if_pos (by simp [Region.wanted,hg])]
 exact .inl h
end Go.Proofs.YtlcimajjnfbidaaGreatDoor.Rf
