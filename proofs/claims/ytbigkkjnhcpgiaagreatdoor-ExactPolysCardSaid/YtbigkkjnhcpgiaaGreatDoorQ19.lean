/-
  Contracts of the functions that the law calls, for every input (Txk LawA NumK NumL NumM).
-/
import Derived.Test.YtbigkkjnhcpgiaaGreatDoorQ00
import Derived.Test.YtbigkkjnhcpgiaaGreatDoorQ18
import Derived.Test.YtbigkkjnhcpgiaaGreatDoorQ12
import Derived.Test.YtbigkkjnhcpgiaaGreatDoorQ08
import Derived.Test.YtbigkkjnhcpgiaaGreatDoorQ11
set_option linter.all false
set_option maxRecDepth 100000
set_option maxHeartbeats 40000000
namespace Go.Proofs.YtbigkkjnhcpgiaaGreatDoor
open Lib (hid)
open Go.RowKit
open Vx
def CN' (l:List UInt8):Option Rat :=
  if (Lib.cut (Lib.trimPrefix l [45]) [47]).2.2=true then
    if Aq' (Lib.cut (Lib.trimPrefix l [45]) [47]).1=true∧Aq' (Lib.cut (Lib.trimPrefix l [45]) [47]).2.1=true∧(Lib.cut (Lib.trimPrefix l [45]) [47]).2.1≠[48] then
      some (mkRat (sgn (Lib.hasPrefix l [45]) (valL (Lib.cut (Lib.trimPrefix l [45]) [47]).1)) (valL (Lib.cut (Lib.trimPrefix l [45]) [47]).2.1))
    else none
  else
    if Aq' (Lib.cut (Lib.trimPrefix l [45]) [46]).1=true∧((Lib.cut (Lib.trimPrefix l [45]) [46]).2.2=true→AT (Lib.cut (Lib.trimPrefix l [45]) [46]).2.1=true) then
      some (mkRat (sgn (Lib.hasPrefix l [45]) (valL ((Lib.cut (Lib.trimPrefix l [45]) [46]).1++(Lib.cut (Lib.trimPrefix l [45]) [46]).2.1))) (10^(Lib.cut (Lib.trimPrefix l [45]) [46]).2.1.length))
    else none
theorem AN' {l:List UInt8} (h:AT l=true):l.all AH'=true:=by
 unfold AT at h
 rw [Bool.and_eq_true] at h
 exact h.2
theorem AW' {l:List UInt8} (h:Aq' l=true):AT l=true:=by
 unfold Aq' at h
 rw [Bool.and_eq_true] at h
 exact h.1
theorem Ex {l:List UInt8} (h:Aq' l=true) (h0:l≠[48]):0<valL l:=by
 have hd:=AW' h
 unfold Aq' at h
 rw [hd,Bool.true_and,Bool.or_eq_true] at h
 have h1:l.headD 0≠48:=by
   rcases h with h | h
   · simpa using h
   · exact absurd (by simpa using h) h0
 match l,hd,h1 with
 | [],hd,_=>cases hd
 | c::l,hd,h1 =>
   have ha:=AN' hd
   rw [List.all_cons,Bool.and_eq_true] at ha
   have h2:48≤c.toNat∧c.toNat≤57:=by
     have:=ha.1
     simp [AH'] at this
     exact this
   have h3:c.toNat≠48:=fun e=>h1 (by show c=48;exact UInt8.toNat_inj.1 e)
   have e:valL (c::l)=(c.toNat - 48)*10^l.length+valL l:=by
     have:=CG l (0*10+(c.toNat - 48))
     have e0:0*10+(c.toNat - 48)=c.toNat - 48:=by omega
     show List.foldl _ (0*10+(c.toNat - 48)) l=_
     rw [this,e0]
   have h4:0<(c.toNat - 48)*10^l.length:=Nat.mul_pos (by omega) (Nat.pow_pos (by decide))
   omega
theorem Bm' (l m:List UInt8):(Lib.cut l m).1.length≤l.length∧(Lib.cut l m).2.1.length≤l.length:=by
 unfold Lib.cut
 split
 · simp only [List.length_take,List.length_drop]
   omega
 · simp
theorem Bt (l m:List UInt8):(Lib.trimPrefix l m).length≤l.length:=by
 unfold Lib.trimPrefix
 split
 · simp only [List.length_drop];omega
 · exact nL _
theorem CX' {w:World} {s:ByteArray} (hs:2000<s.size):Calls Tryz.prog 13 #[.string s] w (AI w 0 5):=by
 have hsi:(2000:Int)<((s.size:Nat):Int):=by omega
 obtain ⟨wB,hwB⟩:=eX (w.alloc (.cells #[.bool false,.slice none 0 0,.slice none 0 0] 33))
 have b0:Below w.heap.size w wB:=by rw [hwB];exact (Below.refl _ _).alloc (nL _) _
 have gB:wB.heap[w.heap.size]?=some (.cells #[.bool false,.slice none 0 0,.slice none 0 0] 33 (0,0)):=by rw [hwB];exact hA_ w _
 have hk:=(Ai'.start (T:=33) rfl (Au _ _ _ _ _ _ _) gB).held (Aj.refl _)
 have HB0:=hid b0
 obtain ⟨-,c0,c1',c2',f0,f1,f2,-⟩:=id hk
 clear gB b0
 go_enter Tryz.func13,Tryz.ntmps13
 go_upto_region 2 with fail
 rw [←hwB]
 clear hwB
 have HD:=hk.done (q:=0) (b:=false) (A1:=none) (n1:=0) (c1:=0) (A2:=none) (n2:=0) (c2:=0) (Bi' _)
 obtain ⟨d1,d2,d3⟩:=HD
 obtain ⟨r0,r1,r2⟩:=Ab' d3
 have HD:=hid (And.intro d1 d2)
 clear d1 d2 d3
 go_wp2_with fail
 refine bP (v:=.tuple #[.agg #[.bool (false),.slice (none) (0) (0),.slice (none) (0) (0)],.int .i64 5]) ?_ rfl ⟨_,rfl,HD.out.1,Ae HB0.out (nL _) HD.out.2⟩
 simp [results,Tryz.results13,go_sem,r0,r1,r2]
theorem EH' {w:World} {s:ByteArray} {mx:Int} (hs:s.size≤2000) (hM:w.cell? ⟨1,0,none⟩=some (.int .i64 mx)) {t:List UInt8} {neg:Bool} (ht:t=Lib.trimPrefix s.data.toList [45]) (hneg:neg=Lib.hasPrefix s.data.toList [45])
   {a b:List UInt8} {fd:Bool} (hcut:Lib.cut t [47]=(a,b,fd)) (hf:fd=true) (h1:Aq' a=false) :
   Calls Tryz.prog 13 #[.string s] w (AI w (0) 4):=by
 have hsi:((s.size:Nat):Int)≤2000:=by omega
 have hlt:t.length≤2000:=by
   rw [ht]
   exact nT (Bt _ _) (by rw [AC'];exact hs)
 have hlab:=Bm' t [47]
 rw [hcut] at hlab
 have hla:a.length≤2000:=nT hlab.1 hlt
 have hlb:b.length≤2000:=nT hlab.2 hlt
 obtain ⟨wB,hwB⟩:=eX (w.alloc (.cells #[.bool false,.slice none 0 0,.slice none 0 0] 33))
 have b0:Below w.heap.size w wB:=by rw [hwB];exact (Below.refl _ _).alloc (nL _) _
 have gB:wB.heap[w.heap.size]?=some (.cells #[.bool false,.slice none 0 0,.slice none 0 0] 33 (0,0)):=by rw [hwB];exact hA_ w _
 have HK0:=hid (Ai'.start (T:=33) rfl (Au _ _ _ _ _ _ _) gB)
 have HB0:=hid b0
 have hMB:wB.cell? ⟨1,0,none⟩=some (.int .i64 mx):=(b0.cell (p:=⟨1,0,none⟩) (bL w _ hM)).trans hM
 have HMB:=hid hMB
 have HP:=hid (Tryz.strings_CutPrefix s ⟨#[45]⟩ wB)
 have e1:Lib.trimPrefix s.data.toList (⟨#[45]⟩:ByteArray).data.toList=t:=ht.symm
 have e2:Lib.hasPrefix s.data.toList (⟨#[45]⟩:ByteArray).data.toList=neg:=hneg.symm
 rw [e1,e2] at HP
 have HC:=hid (Tryz.strings_Cut ⟨t.toArray⟩ ⟨#[47]⟩ mx wB (by show t.toArray.size<_;rw [List.size_toArray];omega) hMB)
 have e3:Lib.cut (⟨t.toArray⟩:ByteArray).data.toList (⟨#[47]⟩:ByteArray).data.toList=(a,b,fd):=hcut
 rw [e3] at HC
 have HLT:=hid hlt
 clear e1 e2 e3 hcut ht hneg gB b0 hMB hM hlab hlt
 go_enter Tryz.func13,Tryz.ntmps13
 go_upto_region 3 with fail
 rw [←hwB]
 clear hwB
 go_wp2_with fail
 refine (HP.out).mono ?_
 rintro e w1 ⟨rfl,rfl⟩
 go_wp2_with fail
 refine (HC.out).mono ?_
 rintro e w2 ⟨rfl,n1,rfl⟩
 clear HP HC
 have HK2:=hid (HK0.out.call (Ai w1 n1))
 have hM2:(w1.drewN n1).cell? ⟨1,0,none⟩=some (.int .i64 mx):=HMB.out
 have HB2:=hid (chain HB0.out (Ai w1 n1))
 generalize w1.drewN n1=w2 at HK2 hM2 HB2 ⊢
 obtain ⟨sa,hsa⟩:=eX (⟨a.toArray⟩:ByteArray)
 obtain ⟨sb,hsb⟩:=eX (⟨b.toArray⟩:ByteArray)
 have hza:sa.size=a.length:=by rw [hsa];show a.toArray.size=_;simp
 have hzb:sb.size=b.length:=by rw [hsb];show b.toArray.size=_;simp
 have hda:sa.data.toList=a:=by rw [hsa]
 have hdb:sb.data.toList=b:=by rw [hsb]
 rw [←hsa,←hsb]
 have HDA:=hid hda;have HDB:=hid hdb
 have hzai:((sa.size:Nat):Int)≤2000:=by omega
 have hzbi:((sb.size:Nat):Int)≤2000:=by omega
 have hza2:sa.size≤2000:=by omega
 have hzb2:sb.size≤2000:=by omega
 clear hsa hsb hza hzb hda hdb HMB
 subst hf
 have HW1:=hid (AT' (w:=w2) (s:=sa) (by omega))
 rw [HDA.out,h1] at HW1
 clear h1
 have hk:=HK2.out.held (Aj.refl _)
 obtain ⟨-,c0,c1',c2',f0,f1,f2,-⟩:=id hk
 have HD:=hk.done (q:=0) (b:=false) (A1:=none) (n1:=0) (c1:=0) (A2:=none) (n2:=0) (c2:=0) (Bi' _)
 obtain ⟨d1,d2,d3⟩:=HD
 obtain ⟨r0,r1,r2⟩:=Ab' d3
 have HD:=hid (And.intro d1 d2)
 clear d1 d2 d3
 go_wp2_with (first | (go_at_call_of 46 (Value.string sa);refine (HW1.out).mono ?_;rintro e w3 ⟨rfl,rfl⟩) | (go_at_call_of 46 (Value.string sb);refine (HW2.out).mono ?_;rintro e w3 ⟨rfl,rfl⟩))
 refine bP (v:=.tuple #[.agg #[.bool (false),.slice (none) (0) (0),.slice (none) (0) (0)],.int .i64 4]) ?_ rfl ⟨_,rfl,HD.out.1,Ae HB0.out (nL _) HD.out.2⟩
 simp [results,Tryz.results13,go_sem,r0,r1,r2]
theorem EI {w:World} {s:ByteArray} {mx:Int} (hs:s.size≤2000) (hM:w.cell? ⟨1,0,none⟩=some (.int .i64 mx)) {t:List UInt8} {neg:Bool} (ht:t=Lib.trimPrefix s.data.toList [45]) (hneg:neg=Lib.hasPrefix s.data.toList [45])
   {a b:List UInt8} {fd:Bool} (hcut:Lib.cut t [47]=(a,b,fd)) (hf:fd=true) (h1:Aq' a=true) (h2:Aq' b=false) :
   Calls Tryz.prog 13 #[.string s] w (AI w (0) 4):=by
 have hsi:((s.size:Nat):Int)≤2000:=by omega
 have hlt:t.length≤2000:=by
   rw [ht]
   exact nT (Bt _ _) (by rw [AC'];exact hs)
 have hlab:=Bm' t [47]
 rw [hcut] at hlab
 have hla:a.length≤2000:=nT hlab.1 hlt
 have hlb:b.length≤2000:=nT hlab.2 hlt
 obtain ⟨wB,hwB⟩:=eX (w.alloc (.cells #[.bool false,.slice none 0 0,.slice none 0 0] 33))
 have b0:Below w.heap.size w wB:=by rw [hwB];exact (Below.refl _ _).alloc (nL _) _
 have gB:wB.heap[w.heap.size]?=some (.cells #[.bool false,.slice none 0 0,.slice none 0 0] 33 (0,0)):=by rw [hwB];exact hA_ w _
 have HK0:=hid (Ai'.start (T:=33) rfl (Au _ _ _ _ _ _ _) gB)
 have HB0:=hid b0
 have hMB:wB.cell? ⟨1,0,none⟩=some (.int .i64 mx):=(b0.cell (p:=⟨1,0,none⟩) (bL w _ hM)).trans hM
 have HMB:=hid hMB
 have HP:=hid (Tryz.strings_CutPrefix s ⟨#[45]⟩ wB)
 have e1:Lib.trimPrefix s.data.toList (⟨#[45]⟩:ByteArray).data.toList=t:=ht.symm
 have e2:Lib.hasPrefix s.data.toList (⟨#[45]⟩:ByteArray).data.toList=neg:=hneg.symm
 rw [e1,e2] at HP
 have HC:=hid (Tryz.strings_Cut ⟨t.toArray⟩ ⟨#[47]⟩ mx wB (by show t.toArray.size<_;rw [List.size_toArray];omega) hMB)
 have e3:Lib.cut (⟨t.toArray⟩:ByteArray).data.toList (⟨#[47]⟩:ByteArray).data.toList=(a,b,fd):=hcut
 rw [e3] at HC
 have HLT:=hid hlt
 clear e1 e2 e3 hcut ht hneg gB b0 hMB hM hlab hlt
 go_enter Tryz.func13,Tryz.ntmps13
 go_upto_region 3 with fail
 rw [←hwB]
 clear hwB
 go_wp2_with fail
 refine (HP.out).mono ?_
 rintro e w1 ⟨rfl,rfl⟩
 go_wp2_with fail
 refine (HC.out).mono ?_
 rintro e w2 ⟨rfl,n1,rfl⟩
 clear HP HC
 have HK2:=hid (HK0.out.call (Ai w1 n1))
 have hM2:(w1.drewN n1).cell? ⟨1,0,none⟩=some (.int .i64 mx):=HMB.out
 have HB2:=hid (chain HB0.out (Ai w1 n1))
 generalize w1.drewN n1=w2 at HK2 hM2 HB2 ⊢
 obtain ⟨sa,hsa⟩:=eX (⟨a.toArray⟩:ByteArray)
 obtain ⟨sb,hsb⟩:=eX (⟨b.toArray⟩:ByteArray)
 have hza:sa.size=a.length:=by rw [hsa];show a.toArray.size=_;simp
 have hzb:sb.size=b.length:=by rw [hsb];show b.toArray.size=_;simp
 have hda:sa.data.toList=a:=by rw [hsa]
 have hdb:sb.data.toList=b:=by rw [hsb]
 rw [←hsa,←hsb]
 have HDA:=hid hda;have HDB:=hid hdb
 have hzai:((sa.size:Nat):Int)≤2000:=by omega
 have hzbi:((sb.size:Nat):Int)≤2000:=by omega
 have hza2:sa.size≤2000:=by omega
 have hzb2:sb.size≤2000:=by omega
 clear hsa hsb hza hzb hda hdb HMB
 subst hf
 have HW1:=hid (AT' (w:=w2) (s:=sa) (by omega))
 rw [HDA.out,h1] at HW1
 have HW2:=hid (AT' (w:=w2) (s:=sb) (by omega))
 rw [HDB.out,h2] at HW2
 clear h1 h2
 have hk:=HK2.out.held (Aj.refl _)
 obtain ⟨-,c0,c1',c2',f0,f1,f2,-⟩:=id hk
 have HD:=hk.done (q:=0) (b:=false) (A1:=none) (n1:=0) (c1:=0) (A2:=none) (n2:=0) (c2:=0) (Bi' _)
 obtain ⟨d1,d2,d3⟩:=HD
 obtain ⟨r0,r1,r2⟩:=Ab' d3
 have HD:=hid (And.intro d1 d2)
 clear d1 d2 d3
 go_wp2_with (first | (go_at_call_of 46 (Value.string sa);refine (HW1.out).mono ?_;rintro e w3 ⟨rfl,rfl⟩) | (go_at_call_of 46 (Value.string sb);refine (HW2.out).mono ?_;rintro e w3 ⟨rfl,rfl⟩))
 refine bP (v:=.tuple #[.agg #[.bool (false),.slice (none) (0) (0),.slice (none) (0) (0)],.int .i64 4]) ?_ rfl ⟨_,rfl,HD.out.1,Ae HB0.out (nL _) HD.out.2⟩
 simp [results,Tryz.results13,go_sem,r0,r1,r2]
theorem EI' {w:World} {s:ByteArray} {mx:Int} (hs:s.size≤2000) (hM:w.cell? ⟨1,0,none⟩=some (.int .i64 mx)) {t:List UInt8} {neg:Bool} (ht:t=Lib.trimPrefix s.data.toList [45]) (hneg:neg=Lib.hasPrefix s.data.toList [45])
   {a b:List UInt8} {fd:Bool} (hcut:Lib.cut t [47]=(a,b,fd)) (hf:fd=true) (h1:Aq' a=true) (h2:Aq' b=true) (h3:b=[48]) :
   Calls Tryz.prog 13 #[.string s] w (AI w (0) 4):=by
 have hsi:((s.size:Nat):Int)≤2000:=by omega
 have hlt:t.length≤2000:=by
   rw [ht]
   exact nT (Bt _ _) (by rw [AC'];exact hs)
 have hlab:=Bm' t [47]
 rw [hcut] at hlab
 have hla:a.length≤2000:=nT hlab.1 hlt
 have hlb:b.length≤2000:=nT hlab.2 hlt
 obtain ⟨wB,hwB⟩:=eX (w.alloc (.cells #[.bool false,.slice none 0 0,.slice none 0 0] 33))
 have b0:Below w.heap.size w wB:=by rw [hwB];exact (Below.refl _ _).alloc (nL _) _
 have gB:wB.heap[w.heap.size]?=some (.cells #[.bool false,.slice none 0 0,.slice none 0 0] 33 (0,0)):=by rw [hwB];exact hA_ w _
 have HK0:=hid (Ai'.start (T:=33) rfl (Au _ _ _ _ _ _ _) gB)
 have HB0:=hid b0
 have hMB:wB.cell? ⟨1,0,none⟩=some (.int .i64 mx):=(b0.cell (p:=⟨1,0,none⟩) (bL w _ hM)).trans hM
 have HMB:=hid hMB
 have HP:=hid (Tryz.strings_CutPrefix s ⟨#[45]⟩ wB)
 have e1:Lib.trimPrefix s.data.toList (⟨#[45]⟩:ByteArray).data.toList=t:=ht.symm
 have e2:Lib.hasPrefix s.data.toList (⟨#[45]⟩:ByteArray).data.toList=neg:=hneg.symm
 rw [e1,e2] at HP
 have HC:=hid (Tryz.strings_Cut ⟨t.toArray⟩ ⟨#[47]⟩ mx wB (by show t.toArray.size<_;rw [List.size_toArray];omega) hMB)
 have e3:Lib.cut (⟨t.toArray⟩:ByteArray).data.toList (⟨#[47]⟩:ByteArray).data.toList=(a,b,fd):=hcut
 rw [e3] at HC
 have HLT:=hid hlt
 clear e1 e2 e3 hcut ht hneg gB b0 hMB hM hlab hlt
 go_enter Tryz.func13,Tryz.ntmps13
 go_upto_region 3 with fail
 rw [←hwB]
 clear hwB
 go_wp2_with fail
 refine (HP.out).mono ?_
 rintro e w1 ⟨rfl,rfl⟩
 go_wp2_with fail
 refine (HC.out).mono ?_
 rintro e w2 ⟨rfl,n1,rfl⟩
 clear HP HC
 have HK2:=hid (HK0.out.call (Ai w1 n1))
 have hM2:(w1.drewN n1).cell? ⟨1,0,none⟩=some (.int .i64 mx):=HMB.out
 have HB2:=hid (chain HB0.out (Ai w1 n1))
 generalize w1.drewN n1=w2 at HK2 hM2 HB2 ⊢
 obtain ⟨sa,hsa⟩:=eX (⟨a.toArray⟩:ByteArray)
 obtain ⟨sb,hsb⟩:=eX (⟨b.toArray⟩:ByteArray)
 have hza:sa.size=a.length:=by rw [hsa];show a.toArray.size=_;simp
 have hzb:sb.size=b.length:=by rw [hsb];show b.toArray.size=_;simp
 have hda:sa.data.toList=a:=by rw [hsa]
 have hdb:sb.data.toList=b:=by rw [hsb]
 rw [←hsa,←hsb]
 have HDA:=hid hda;have HDB:=hid hdb
 have hzai:((sa.size:Nat):Int)≤2000:=by omega
 have hzbi:((sb.size:Nat):Int)≤2000:=by omega
 have hza2:sa.size≤2000:=by omega
 have hzb2:sb.size≤2000:=by omega
 clear hsa hsb hza hzb hda hdb HMB
 subst hf
 have HW1:=hid (AT' (w:=w2) (s:=sa) (by omega))
 rw [HDA.out,h1] at HW1
 have HW2:=hid (AT' (w:=w2) (s:=sb) (by omega))
 rw [HDB.out,h2] at HW2
 have hz:(sb.toList==[48])=true:=by rw [ByteArray.toList_eq,HDB.out,h3];rfl
 clear h1 h2 h3
 have hk:=HK2.out.held (Aj.refl _)
 obtain ⟨-,c0,c1',c2',f0,f1,f2,-⟩:=id hk
 have HD:=hk.done (q:=0) (b:=false) (A1:=none) (n1:=0) (c1:=0) (A2:=none) (n2:=0) (c2:=0) (Bi' _)
 obtain ⟨d1,d2,d3⟩:=HD
 obtain ⟨r0,r1,r2⟩:=Ab' d3
 have HD:=hid (And.intro d1 d2)
 clear d1 d2 d3
 go_wp2_with (first | (go_at_call_of 46 (Value.string sa);refine (HW1.out).mono ?_;rintro e w3 ⟨rfl,rfl⟩) | (go_at_call_of 46 (Value.string sb);refine (HW2.out).mono ?_;rintro e w3 ⟨rfl,rfl⟩))
 refine bP (v:=.tuple #[.agg #[.bool (false),.slice (none) (0) (0),.slice (none) (0) (0)],.int .i64 4]) ?_ rfl ⟨_,rfl,HD.out.1,Ae HB0.out (nL _) HD.out.2⟩
 simp [results,Tryz.results13,go_sem,r0,r1,r2]
theorem EJ {w:World} {s:ByteArray} {mx:Int} (hs:s.size≤2000) (hM:w.cell? ⟨1,0,none⟩=some (.int .i64 mx)) {t:List UInt8} {neg:Bool} (ht:t=Lib.trimPrefix s.data.toList [45]) (hneg:neg=Lib.hasPrefix s.data.toList [45])
   {a b:List UInt8} {fd:Bool} (hcut:Lib.cut t [47]=(a,b,fd)) (hf:fd=true) (h1:Aq' a=true) (h2:Aq' b=true) (h3:b≠[48]) {q:Rat} (hq:q=mkRat (sgn neg (valL a)) (valL b)) :
   Calls Tryz.prog 13 #[.string s] w (AI w (q) 0):=by
 have hsi:((s.size:Nat):Int)≤2000:=by omega
 have hlt:t.length≤2000:=by
   rw [ht]
   exact nT (Bt _ _) (by rw [AC'];exact hs)
 have hlab:=Bm' t [47]
 rw [hcut] at hlab
 have hla:a.length≤2000:=nT hlab.1 hlt
 have hlb:b.length≤2000:=nT hlab.2 hlt
 obtain ⟨wB,hwB⟩:=eX (w.alloc (.cells #[.bool false,.slice none 0 0,.slice none 0 0] 33))
 have b0:Below w.heap.size w wB:=by rw [hwB];exact (Below.refl _ _).alloc (nL _) _
 have gB:wB.heap[w.heap.size]?=some (.cells #[.bool false,.slice none 0 0,.slice none 0 0] 33 (0,0)):=by rw [hwB];exact hA_ w _
 have HK0:=hid (Ai'.start (T:=33) rfl (Au _ _ _ _ _ _ _) gB)
 have HB0:=hid b0
 have hMB:wB.cell? ⟨1,0,none⟩=some (.int .i64 mx):=(b0.cell (p:=⟨1,0,none⟩) (bL w _ hM)).trans hM
 have HMB:=hid hMB
 have HP:=hid (Tryz.strings_CutPrefix s ⟨#[45]⟩ wB)
 have e1:Lib.trimPrefix s.data.toList (⟨#[45]⟩:ByteArray).data.toList=t:=ht.symm
 have e2:Lib.hasPrefix s.data.toList (⟨#[45]⟩:ByteArray).data.toList=neg:=hneg.symm
 rw [e1,e2] at HP
 have HC:=hid (Tryz.strings_Cut ⟨t.toArray⟩ ⟨#[47]⟩ mx wB (by show t.toArray.size<_;rw [List.size_toArray];omega) hMB)
 have e3:Lib.cut (⟨t.toArray⟩:ByteArray).data.toList (⟨#[47]⟩:ByteArray).data.toList=(a,b,fd):=hcut
 rw [e3] at HC
 have HLT:=hid hlt
 clear e1 e2 e3 hcut ht hneg gB b0 hMB hM hlab hlt
 go_enter Tryz.func13,Tryz.ntmps13
 go_upto_region 3 with fail
 rw [←hwB]
 clear hwB
 go_wp2_with fail
 refine (HP.out).mono ?_
 rintro e w1 ⟨rfl,rfl⟩
 go_wp2_with fail
 refine (HC.out).mono ?_
 rintro e w2 ⟨rfl,n1,rfl⟩
 clear HP HC
 have HK2:=hid (HK0.out.call (Ai w1 n1))
 have hM2:(w1.drewN n1).cell? ⟨1,0,none⟩=some (.int .i64 mx):=HMB.out
 have HB2:=hid (chain HB0.out (Ai w1 n1))
 generalize w1.drewN n1=w2 at HK2 hM2 HB2 ⊢
 obtain ⟨sa,hsa⟩:=eX (⟨a.toArray⟩:ByteArray)
 obtain ⟨sb,hsb⟩:=eX (⟨b.toArray⟩:ByteArray)
 have hza:sa.size=a.length:=by rw [hsa];show a.toArray.size=_;simp
 have hzb:sb.size=b.length:=by rw [hsb];show b.toArray.size=_;simp
 have hda:sa.data.toList=a:=by rw [hsa]
 have hdb:sb.data.toList=b:=by rw [hsb]
 rw [←hsa,←hsb]
 have HDA:=hid hda;have HDB:=hid hdb
 have hzai:((sa.size:Nat):Int)≤2000:=by omega
 have hzbi:((sb.size:Nat):Int)≤2000:=by omega
 have hza2:sa.size≤2000:=by omega
 have hzb2:sb.size≤2000:=by omega
 clear hsa hsb hza hzb hda hdb HMB
 subst hf
 have HQ:=hid hq
 clear hq
 have HW1:=hid (AT' (w:=w2) (s:=sa) (by omega))
 rw [HDA.out,h1] at HW1
 have HW2:=hid (AT' (w:=w2) (s:=sb) (by omega))
 rw [HDB.out,h2] at HW2
 have hz:(sb.toList==[48])=false:=by rw [ByteArray.toList_eq,HDB.out,beq_eq_false_iff_ne];exact h3
 have hda:=AN' (AW' h1)
 have hdb:=AN' (AW' h2)
 have HPOS:=hid (Ex h2 h3)
 have hla2:=Bk hda
 have hlb2:=Bk hdb
 have HL:=hid (And.intro (show len (valL a)≤2001 by omega) (show len (valL b)≤2001 by omega))
 have HN1:=hid (BG (w:=w2) (s0:=sa) (by omega) (by rw [HDA.out];exact hda))
 have HN2:=fun w'=>hid (BG (w:=w') (s0:=sb) (by omega) (by rw [HDB.out];exact hdb))
 rw [HDA.out] at HN1
 rw [HDB.out] at HN2
 clear h1 h2 h3 hda hdb hla2 hlb2
 go_upto_region 8 with (first | (go_at_call_of 46 (Value.string sa);refine (HW1.out).mono ?_;rintro e w3 ⟨rfl,rfl⟩) | (go_at_call_of 46 (Value.string sb);refine (HW2.out).mono ?_;rintro e w3 ⟨rfl,rfl⟩))
 go_wp2_with fail
 refine (HN1.out).mono ?_
 rintro e w4 ⟨v4,rfl,hv4,b4⟩
 have HN3:=HN2 w4
 have HK4:=hid (HK2.out.call b4)
 clear b4 HN1 HN2
 go_wp2_with fail
 refine (HN3.out).mono ?_
 rintro e w5 ⟨v5,rfl,hv5,b5⟩
 have hv4':=hv4.keep b5
 have HK5:=hid (HK4.out.call b5)
 have HRD:=hid (Ci (neg:=neg) hv4' hv5 HPOS.out (nT HL.out.1 (by decide)) (nT HL.out.2 (by decide)))
 rw [BV'] at HRD
 clear b5 HN3 hv4 hv4' hv5
 rw [←HQ.out] at HRD
 clear HQ
 go_wp2_with fail
 refine (HRD.out).mono ?_
 rintro e w6 ⟨v6,rfl,hv6,b6⟩
 obtain ⟨C1,j1,C2,j2,rfl,-,-⟩:=hv6.opened
 have hk:=(HK5.out.call b6).held (Aj.refl _)
 clear b6 HRD
 obtain ⟨-,c0,c1',c2',f0,f1,f2,-⟩:=id hk
 have HD:=hk.done (q:=q) (b:=decide (q.num<0)) (A1:=C1) (n1:=len q.num.natAbs) (c1:=j1) (A2:=C2) (n2:=len (below q.den)) (c2:=j2) (hv6)
 obtain ⟨d1,d2,d3⟩:=HD
 obtain ⟨r0,r1,r2⟩:=Ab' d3
 have HD:=hid (And.intro d1 d2)
 clear d1 d2 d3
 go_wp2_with fail
 refine bP (v:=.tuple #[.agg #[.bool (decide (q.num<0)),.slice (C1) (len q.num.natAbs) (j1),.slice (C2) (len (below q.den)) (j2)],.int .i64 0]) ?_ rfl ⟨_,rfl,HD.out.1,Ae HB0.out (nL _) HD.out.2⟩
 simp [results,Tryz.results13,go_sem,r0,r1,r2]
theorem EJ' {w:World} {s:ByteArray} {mx:Int} (hs:s.size≤2000) (hM:w.cell? ⟨1,0,none⟩=some (.int .i64 mx)) {t:List UInt8} {neg:Bool} (ht:t=Lib.trimPrefix s.data.toList [45]) (hneg:neg=Lib.hasPrefix s.data.toList [45])
   {x0 y0:List UInt8} (hcut0:Lib.cut t [47]=(x0,y0,false)) {a b:List UInt8} {fd:Bool} (hcut:Lib.cut t [46]=(a,b,fd)) (h1:Aq' a=false) :
   Calls Tryz.prog 13 #[.string s] w (AI w (0) 4):=by
 have hsi:((s.size:Nat):Int)≤2000:=by omega
 have hlt:t.length≤2000:=by
   rw [ht]
   exact nT (Bt _ _) (by rw [AC'];exact hs)
 have hlab:=Bm' t [46]
 rw [hcut] at hlab
 have hla:a.length≤2000:=nT hlab.1 hlt
 have hlb:b.length≤2000:=nT hlab.2 hlt
 obtain ⟨wB,hwB⟩:=eX (w.alloc (.cells #[.bool false,.slice none 0 0,.slice none 0 0] 33))
 have b0:Below w.heap.size w wB:=by rw [hwB];exact (Below.refl _ _).alloc (nL _) _
 have gB:wB.heap[w.heap.size]?=some (.cells #[.bool false,.slice none 0 0,.slice none 0 0] 33 (0,0)):=by rw [hwB];exact hA_ w _
 have HK0:=hid (Ai'.start (T:=33) rfl (Au _ _ _ _ _ _ _) gB)
 have HB0:=hid b0
 have hMB:wB.cell? ⟨1,0,none⟩=some (.int .i64 mx):=(b0.cell (p:=⟨1,0,none⟩) (bL w _ hM)).trans hM
 have HMB:=hid hMB
 have HP:=hid (Tryz.strings_CutPrefix s ⟨#[45]⟩ wB)
 have e1:Lib.trimPrefix s.data.toList (⟨#[45]⟩:ByteArray).data.toList=t:=ht.symm
 have e2:Lib.hasPrefix s.data.toList (⟨#[45]⟩:ByteArray).data.toList=neg:=hneg.symm
 rw [e1,e2] at HP
 have HC:=hid (Tryz.strings_Cut ⟨t.toArray⟩ ⟨#[47]⟩ mx wB (by show t.toArray.size<_;rw [List.size_toArray];omega) hMB)
 have e3:Lib.cut (⟨t.toArray⟩:ByteArray).data.toList (⟨#[47]⟩:ByteArray).data.toList=(x0,y0,false):=hcut0
 rw [e3] at HC
 have HC2:=fun k=>hid (Tryz.strings_Cut ⟨t.toArray⟩ ⟨#[46]⟩ mx (wB.drewN k) (by show t.toArray.size<_;rw [List.size_toArray];omega) hMB)
 have e4:Lib.cut (⟨t.toArray⟩:ByteArray).data.toList (⟨#[46]⟩:ByteArray).data.toList=(a,b,fd):=hcut
 rw [e4] at HC2
 have HLT:=hid hlt
 clear e1 e2 e3 e4 hcut hcut0 ht hneg gB b0 hMB hM hlab hlt
 go_enter Tryz.func13,Tryz.ntmps13
 go_upto_region 3 with fail
 rw [←hwB]
 clear hwB
 go_wp2_with fail
 refine (HP.out).mono ?_
 rintro e w1 ⟨rfl,rfl⟩
 go_wp2_with fail
 refine (HC.out).mono ?_
 rintro e w2 ⟨rfl,n0,rfl⟩
 have HC3:=HC2 n0
 go_wp2_with fail
 refine (HC3.out).mono ?_
 rintro e w2 ⟨rfl,n1,rfl⟩
 clear HP HC HC2 HC3
 have hkk:=HK0.out.call (Ai w1 n0)
 have HMB:=hid (show (w1.drewN n0).cell? ⟨1,0,none⟩=some (.int .i64 mx) from HMB.out)
 generalize w1.drewN n0=wc at hkk HMB ⊢
 have HK2:=hid (hkk.call (Ai wc n1))
 clear hkk
 have hM2:(wc.drewN n1).cell? ⟨1,0,none⟩=some (.int .i64 mx):=HMB.out
 have HB2:=hid True.intro
 generalize wc.drewN n1=w2 at HK2 hM2 ⊢
 obtain ⟨sa,hsa⟩:=eX (⟨a.toArray⟩:ByteArray)
 obtain ⟨sb,hsb⟩:=eX (⟨b.toArray⟩:ByteArray)
 have hza:sa.size=a.length:=by rw [hsa];show a.toArray.size=_;simp
 have hzb:sb.size=b.length:=by rw [hsb];show b.toArray.size=_;simp
 have hda:sa.data.toList=a:=by rw [hsa]
 have hdb:sb.data.toList=b:=by rw [hsb]
 rw [←hsa,←hsb]
 have HDA:=hid hda;have HDB:=hid hdb
 have hzai:((sa.size:Nat):Int)≤2000:=by omega
 have hzbi:((sb.size:Nat):Int)≤2000:=by omega
 have hza2:sa.size≤2000:=by omega
 have hzb2:sb.size≤2000:=by omega
 clear hsa hsb hza hzb hda hdb HMB
 have HW1:=hid (AT' (w:=w2) (s:=sa) (by omega))
 rw [HDA.out,h1] at HW1
 clear h1
 have hk:=HK2.out.held (Aj.refl _)
 obtain ⟨-,c0,c1',c2',f0,f1,f2,-⟩:=id hk
 have HD:=hk.done (q:=0) (b:=false) (A1:=none) (n1:=0) (c1:=0) (A2:=none) (n2:=0) (c2:=0) (Bi' _)
 obtain ⟨d1,d2,d3⟩:=HD
 obtain ⟨r0,r1,r2⟩:=Ab' d3
 have HD:=hid (And.intro d1 d2)
 clear d1 d2 d3
 go_wp2_with (first | (go_at_call_of 46 (Value.string sa);refine (HW1.out).mono ?_;rintro e w3 ⟨rfl,rfl⟩) | (go_at_call_of 49 (Value.string sb);refine (HW2.out).mono ?_;rintro e w3 ⟨rfl,rfl⟩))
 refine bP (v:=.tuple #[.agg #[.bool (false),.slice (none) (0) (0),.slice (none) (0) (0)],.int .i64 4]) ?_ rfl ⟨_,rfl,HD.out.1,Ae HB0.out (nL _) HD.out.2⟩
 simp [results,Tryz.results13,go_sem,r0,r1,r2]
theorem EK {w:World} {s:ByteArray} {mx:Int} (hs:s.size≤2000) (hM:w.cell? ⟨1,0,none⟩=some (.int .i64 mx)) {t:List UInt8} {neg:Bool} (ht:t=Lib.trimPrefix s.data.toList [45]) (hneg:neg=Lib.hasPrefix s.data.toList [45])
   {x0 y0:List UInt8} (hcut0:Lib.cut t [47]=(x0,y0,false)) {a b:List UInt8} {fd:Bool} (hcut:Lib.cut t [46]=(a,b,fd)) (hf:fd=true) (h1:Aq' a=true) (h2:AT b=false) :
   Calls Tryz.prog 13 #[.string s] w (AI w (0) 4):=by
 have hsi:((s.size:Nat):Int)≤2000:=by omega
 have hlt:t.length≤2000:=by
   rw [ht]
   exact nT (Bt _ _) (by rw [AC'];exact hs)
 have hlab:=Bm' t [46]
 rw [hcut] at hlab
 have hla:a.length≤2000:=nT hlab.1 hlt
 have hlb:b.length≤2000:=nT hlab.2 hlt
 obtain ⟨wB,hwB⟩:=eX (w.alloc (.cells #[.bool false,.slice none 0 0,.slice none 0 0] 33))
 have b0:Below w.heap.size w wB:=by rw [hwB];exact (Below.refl _ _).alloc (nL _) _
 have gB:wB.heap[w.heap.size]?=some (.cells #[.bool false,.slice none 0 0,.slice none 0 0] 33 (0,0)):=by rw [hwB];exact hA_ w _
 have HK0:=hid (Ai'.start (T:=33) rfl (Au _ _ _ _ _ _ _) gB)
 have HB0:=hid b0
 have hMB:wB.cell? ⟨1,0,none⟩=some (.int .i64 mx):=(b0.cell (p:=⟨1,0,none⟩) (bL w _ hM)).trans hM
 have HMB:=hid hMB
 have HP:=hid (Tryz.strings_CutPrefix s ⟨#[45]⟩ wB)
 have e1:Lib.trimPrefix s.data.toList (⟨#[45]⟩:ByteArray).data.toList=t:=ht.symm
 have e2:Lib.hasPrefix s.data.toList (⟨#[45]⟩:ByteArray).data.toList=neg:=hneg.symm
 rw [e1,e2] at HP
 have HC:=hid (Tryz.strings_Cut ⟨t.toArray⟩ ⟨#[47]⟩ mx wB (by show t.toArray.size<_;rw [List.size_toArray];omega) hMB)
 have e3:Lib.cut (⟨t.toArray⟩:ByteArray).data.toList (⟨#[47]⟩:ByteArray).data.toList=(x0,y0,false):=hcut0
 rw [e3] at HC
 have HC2:=fun k=>hid (Tryz.strings_Cut ⟨t.toArray⟩ ⟨#[46]⟩ mx (wB.drewN k) (by show t.toArray.size<_;rw [List.size_toArray];omega) hMB)
 have e4:Lib.cut (⟨t.toArray⟩:ByteArray).data.toList (⟨#[46]⟩:ByteArray).data.toList=(a,b,fd):=hcut
 rw [e4] at HC2
 have HLT:=hid hlt
 clear e1 e2 e3 e4 hcut hcut0 ht hneg gB b0 hMB hM hlab hlt
 go_enter Tryz.func13,Tryz.ntmps13
 go_upto_region 3 with fail
 rw [←hwB]
 clear hwB
 go_wp2_with fail
 refine (HP.out).mono ?_
 rintro e w1 ⟨rfl,rfl⟩
 go_wp2_with fail
 refine (HC.out).mono ?_
 rintro e w2 ⟨rfl,n0,rfl⟩
 have HC3:=HC2 n0
 go_wp2_with fail
 refine (HC3.out).mono ?_
 rintro e w2 ⟨rfl,n1,rfl⟩
 clear HP HC HC2 HC3
 have hkk:=HK0.out.call (Ai w1 n0)
 have HMB:=hid (show (w1.drewN n0).cell? ⟨1,0,none⟩=some (.int .i64 mx) from HMB.out)
 generalize w1.drewN n0=wc at hkk HMB ⊢
 have HK2:=hid (hkk.call (Ai wc n1))
 clear hkk
 have hM2:(wc.drewN n1).cell? ⟨1,0,none⟩=some (.int .i64 mx):=HMB.out
 have HB2:=hid True.intro
 generalize wc.drewN n1=w2 at HK2 hM2 ⊢
 obtain ⟨sa,hsa⟩:=eX (⟨a.toArray⟩:ByteArray)
 obtain ⟨sb,hsb⟩:=eX (⟨b.toArray⟩:ByteArray)
 have hza:sa.size=a.length:=by rw [hsa];show a.toArray.size=_;simp
 have hzb:sb.size=b.length:=by rw [hsb];show b.toArray.size=_;simp
 have hda:sa.data.toList=a:=by rw [hsa]
 have hdb:sb.data.toList=b:=by rw [hsb]
 rw [←hsa,←hsb]
 have HDA:=hid hda;have HDB:=hid hdb
 have hzai:((sa.size:Nat):Int)≤2000:=by omega
 have hzbi:((sb.size:Nat):Int)≤2000:=by omega
 have hza2:sa.size≤2000:=by omega
 have hzb2:sb.size≤2000:=by omega
 clear hsa hsb hza hzb hda hdb HMB
 subst hf
 have HW1:=hid (AT' (w:=w2) (s:=sa) (by omega))
 rw [HDA.out,h1] at HW1
 have HW2:=hid (CB (w:=w2) (s:=sb) (by omega))
 rw [HDB.out,h2] at HW2
 clear h1 h2
 have hk:=HK2.out.held (Aj.refl _)
 obtain ⟨-,c0,c1',c2',f0,f1,f2,-⟩:=id hk
 have HD:=hk.done (q:=0) (b:=false) (A1:=none) (n1:=0) (c1:=0) (A2:=none) (n2:=0) (c2:=0) (Bi' _)
 obtain ⟨d1,d2,d3⟩:=HD
 obtain ⟨r0,r1,r2⟩:=Ab' d3
 have HD:=hid (And.intro d1 d2)
 clear d1 d2 d3
 go_wp2_with (first | (go_at_call_of 46 (Value.string sa);refine (HW1.out).mono ?_;rintro e w3 ⟨rfl,rfl⟩) | (go_at_call_of 49 (Value.string sb);refine (HW2.out).mono ?_;rintro e w3 ⟨rfl,rfl⟩))
 refine bP (v:=.tuple #[.agg #[.bool (false),.slice (none) (0) (0),.slice (none) (0) (0)],.int .i64 4]) ?_ rfl ⟨_,rfl,HD.out.1,Ae HB0.out (nL _) HD.out.2⟩
 simp [results,Tryz.results13,go_sem,r0,r1,r2]
theorem EK' {w:World} {s:ByteArray} {mx:Int} (hs:s.size≤2000) (hM:w.cell? ⟨1,0,none⟩=some (.int .i64 mx)) {t:List UInt8} {neg:Bool} (ht:t=Lib.trimPrefix s.data.toList [45]) (hneg:neg=Lib.hasPrefix s.data.toList [45])
   {x0 y0:List UInt8} (hcut0:Lib.cut t [47]=(x0,y0,false)) {a b:List UInt8} {fd:Bool} (hcut:Lib.cut t [46]=(a,b,fd)) (hf:fd=false) (h1:Aq' a=true) (h3:b.all AH'=true) {q:Rat} (hq:q=mkRat (sgn neg (valL (a++b))) (10^b.length)) :
   Calls Tryz.prog 13 #[.string s] w (AI w (q) 0):=by
 have hsi:((s.size:Nat):Int)≤2000:=by omega
 have hlt:t.length≤2000:=by
   rw [ht]
   exact nT (Bt _ _) (by rw [AC'];exact hs)
 have hlab:=Bm' t [46]
 rw [hcut] at hlab
 have hla:a.length≤2000:=nT hlab.1 hlt
 have hlb:b.length≤2000:=nT hlab.2 hlt
 obtain ⟨wB,hwB⟩:=eX (w.alloc (.cells #[.bool false,.slice none 0 0,.slice none 0 0] 33))
 have b0:Below w.heap.size w wB:=by rw [hwB];exact (Below.refl _ _).alloc (nL _) _
 have gB:wB.heap[w.heap.size]?=some (.cells #[.bool false,.slice none 0 0,.slice none 0 0] 33 (0,0)):=by rw [hwB];exact hA_ w _
 have HK0:=hid (Ai'.start (T:=33) rfl (Au _ _ _ _ _ _ _) gB)
 have HB0:=hid b0
 have hMB:wB.cell? ⟨1,0,none⟩=some (.int .i64 mx):=(b0.cell (p:=⟨1,0,none⟩) (bL w _ hM)).trans hM
 have HMB:=hid hMB
 have HP:=hid (Tryz.strings_CutPrefix s ⟨#[45]⟩ wB)
 have e1:Lib.trimPrefix s.data.toList (⟨#[45]⟩:ByteArray).data.toList=t:=ht.symm
 have e2:Lib.hasPrefix s.data.toList (⟨#[45]⟩:ByteArray).data.toList=neg:=hneg.symm
 rw [e1,e2] at HP
 have HC:=hid (Tryz.strings_Cut ⟨t.toArray⟩ ⟨#[47]⟩ mx wB (by show t.toArray.size<_;rw [List.size_toArray];omega) hMB)
 have e3:Lib.cut (⟨t.toArray⟩:ByteArray).data.toList (⟨#[47]⟩:ByteArray).data.toList=(x0,y0,false):=hcut0
 rw [e3] at HC
 have HC2:=fun k=>hid (Tryz.strings_Cut ⟨t.toArray⟩ ⟨#[46]⟩ mx (wB.drewN k) (by show t.toArray.size<_;rw [List.size_toArray];omega) hMB)
 have e4:Lib.cut (⟨t.toArray⟩:ByteArray).data.toList (⟨#[46]⟩:ByteArray).data.toList=(a,b,fd):=hcut
 rw [e4] at HC2
 have HLT:=hid hlt
 clear e1 e2 e3 e4 hcut hcut0 ht hneg gB b0 hMB hM hlab hlt
 go_enter Tryz.func13,Tryz.ntmps13
 go_upto_region 3 with fail
 rw [←hwB]
 clear hwB
 go_wp2_with fail
 refine (HP.out).mono ?_
 rintro e w1 ⟨rfl,rfl⟩
 go_wp2_with fail
 refine (HC.out).mono ?_
 rintro e w2 ⟨rfl,n0,rfl⟩
 have HC3:=HC2 n0
 go_wp2_with fail
 refine (HC3.out).mono ?_
 rintro e w2 ⟨rfl,n1,rfl⟩
 clear HP HC HC2 HC3
 have hkk:=HK0.out.call (Ai w1 n0)
 have HMB:=hid (show (w1.drewN n0).cell? ⟨1,0,none⟩=some (.int .i64 mx) from HMB.out)
 generalize w1.drewN n0=wc at hkk HMB ⊢
 have HK2:=hid (hkk.call (Ai wc n1))
 clear hkk
 have hM2:(wc.drewN n1).cell? ⟨1,0,none⟩=some (.int .i64 mx):=HMB.out
 have HB2:=hid True.intro
 generalize wc.drewN n1=w2 at HK2 hM2 ⊢
 obtain ⟨sa,hsa⟩:=eX (⟨a.toArray⟩:ByteArray)
 obtain ⟨sb,hsb⟩:=eX (⟨b.toArray⟩:ByteArray)
 have hza:sa.size=a.length:=by rw [hsa];show a.toArray.size=_;simp
 have hzb:sb.size=b.length:=by rw [hsb];show b.toArray.size=_;simp
 have hda:sa.data.toList=a:=by rw [hsa]
 have hdb:sb.data.toList=b:=by rw [hsb]
 rw [←hsa,←hsb]
 have HDA:=hid hda;have HDB:=hid hdb
 have hzai:((sa.size:Nat):Int)≤2000:=by omega
 have hzbi:((sb.size:Nat):Int)≤2000:=by omega
 have hza2:sa.size≤2000:=by omega
 have hzb2:sb.size≤2000:=by omega
 have hzb0:=hzb
 clear hsa hsb hza hzb hda hdb HMB
 subst hf
 have HW1:=hid (AT' (w:=w2) (s:=sa) (by omega))
 rw [HDA.out,h1] at HW1
 have hda:=AN' (AW' h1)
 have hab:(a++b).all AH'=true:=by rw [List.all_append,Bool.and_eq_true];exact ⟨hda,h3⟩
 have HLB:=hid hlb
 have hla2:=Bk hab
 have HL:=hid (show len (valL (a++b))≤4001 by rw [List.length_append] at hla2;omega)
 have HN1:Hid (∀ s0:ByteArray,s0.data.toList=a++b→Calls Tryz.prog 48 #[.string s0] w2 (AE' w2 (valL (a++b)))):=by
   intro s0 e
   have:=BG (w:=w2) (s0:=s0) (by rw [←AC',e,List.length_append];omega) (by rw [e];exact hab)
   rw [e] at this
   exact this
 have HQ:=hid hq
 have HB:=hid hzb0
 clear hq h1 h3 hda hab hla2 hzb0
 go_wp2_with (first | (go_at_call_of 46 (Value.string sa);refine (HW1.out).mono ?_;rintro e w3 ⟨rfl,rfl⟩) | (go_at_call_of 49 (Value.string sb);refine (HW2.out).mono ?_;rintro e w3 ⟨rfl,rfl⟩))
 go_wp2_with fail
 refine (HN1.out _ ?cat).mono ?_
 case cat =>
   show (sa++sb).data.toList=a++b
   rw [ByteArray.data_append,Array.toList_append,HDA.out,HDB.out]
 rintro e w4 ⟨v4,rfl,hv4,b4⟩
 have hten:Nt (w4.alloc (.cells #[.int .u64 10] 86)) (.slice (some ⟨w4.heap.size,0,none⟩) 1 1) 10:=CA' w4 (x:=10) (by decide) (by rw [Bh];decide)
 have hl10:len 10=1:=by decide +kernel
 have HP2:=hid (BE' (n:=sb.size) hten (by omega) (by rw [hl10];omega) (by rw [hl10];decide))
 have bA:Below w4.heap.size w4 (w4.alloc (.cells #[.int .u64 10] 86)):=(Below.refl _ _).alloc (nL _) _
 have hvA:=hv4.keep bA
 have HKA:=hid ((HK2.out.call b4).call bA)
 have hpb:len (10^sb.size)≤4001:=by
   have:=BA' 10 sb.size
   rw [hl10] at this
   omega
 clear b4 HN1 hten hl10 bA hv4
 go_wp2_with fail
 refine (HP2.out).mono ?_
 rintro e w5 ⟨v5,rfl,hv5,b5⟩
 have hv4':=hvA.keep b5
 have HK5:=hid (HKA.out.call b5)
 have HRD:=hid (Ci (neg:=neg) hv4' hv5 (Nat.pow_pos (by decide)) (nT HL.out (by decide)) (nT hpb (by decide)))
 rw [BV',HB.out,←HQ.out] at HRD
 clear b5 HP2 hv4' hv5 hvA HKA hpb HQ
 go_wp2_with fail
 refine (HRD.out).mono ?_
 rintro e w6 ⟨v6,rfl,hv6,b6⟩
 obtain ⟨C1,j1,C2,j2,rfl,-,-⟩:=hv6.opened
 have hk:=(HK5.out.call b6).held (Aj.refl _)
 clear b6 HRD
 obtain ⟨-,c0,c1',c2',f0,f1,f2,-⟩:=id hk
 have HD:=hk.done (q:=q) (b:=decide (q.num<0)) (A1:=C1) (n1:=len q.num.natAbs) (c1:=j1) (A2:=C2) (n2:=len (below q.den)) (c2:=j2) (hv6)
 obtain ⟨d1,d2,d3⟩:=HD
 obtain ⟨r0,r1,r2⟩:=Ab' d3
 have HD:=hid (And.intro d1 d2)
 clear d1 d2 d3
 go_wp2_with fail
 refine bP (v:=.tuple #[.agg #[.bool (decide (q.num<0)),.slice (C1) (len q.num.natAbs) (j1),.slice (C2) (len (below q.den)) (j2)],.int .i64 0]) ?_ rfl ⟨_,rfl,HD.out.1,Ae HB0.out (nL _) HD.out.2⟩
 simp [results,Tryz.results13,go_sem,r0,r1,r2]
theorem EL {w:World} {s:ByteArray} {mx:Int} (hs:s.size≤2000) (hM:w.cell? ⟨1,0,none⟩=some (.int .i64 mx)) {t:List UInt8} {neg:Bool} (ht:t=Lib.trimPrefix s.data.toList [45]) (hneg:neg=Lib.hasPrefix s.data.toList [45])
   {x0 y0:List UInt8} (hcut0:Lib.cut t [47]=(x0,y0,false)) {a b:List UInt8} {fd:Bool} (hcut:Lib.cut t [46]=(a,b,fd)) (hf:fd=true) (h2:AT b=true) (h1:Aq' a=true) (h3:b.all AH'=true) {q:Rat} (hq:q=mkRat (sgn neg (valL (a++b))) (10^b.length)) :
   Calls Tryz.prog 13 #[.string s] w (AI w (q) 0):=by
 have hsi:((s.size:Nat):Int)≤2000:=by omega
 have hlt:t.length≤2000:=by
   rw [ht]
   exact nT (Bt _ _) (by rw [AC'];exact hs)
 have hlab:=Bm' t [46]
 rw [hcut] at hlab
 have hla:a.length≤2000:=nT hlab.1 hlt
 have hlb:b.length≤2000:=nT hlab.2 hlt
 obtain ⟨wB,hwB⟩:=eX (w.alloc (.cells #[.bool false,.slice none 0 0,.slice none 0 0] 33))
 have b0:Below w.heap.size w wB:=by rw [hwB];exact (Below.refl _ _).alloc (nL _) _
 have gB:wB.heap[w.heap.size]?=some (.cells #[.bool false,.slice none 0 0,.slice none 0 0] 33 (0,0)):=by rw [hwB];exact hA_ w _
 have HK0:=hid (Ai'.start (T:=33) rfl (Au _ _ _ _ _ _ _) gB)
 have HB0:=hid b0
 have hMB:wB.cell? ⟨1,0,none⟩=some (.int .i64 mx):=(b0.cell (p:=⟨1,0,none⟩) (bL w _ hM)).trans hM
 have HMB:=hid hMB
 have HP:=hid (Tryz.strings_CutPrefix s ⟨#[45]⟩ wB)
 have e1:Lib.trimPrefix s.data.toList (⟨#[45]⟩:ByteArray).data.toList=t:=ht.symm
 have e2:Lib.hasPrefix s.data.toList (⟨#[45]⟩:ByteArray).data.toList=neg:=hneg.symm
 rw [e1,e2] at HP
 have HC:=hid (Tryz.strings_Cut ⟨t.toArray⟩ ⟨#[47]⟩ mx wB (by show t.toArray.size<_;rw [List.size_toArray];omega) hMB)
 have e3:Lib.cut (⟨t.toArray⟩:ByteArray).data.toList (⟨#[47]⟩:ByteArray).data.toList=(x0,y0,false):=hcut0
 rw [e3] at HC
 have HC2:=fun k=>hid (Tryz.strings_Cut ⟨t.toArray⟩ ⟨#[46]⟩ mx (wB.drewN k) (by show t.toArray.size<_;rw [List.size_toArray];omega) hMB)
 have e4:Lib.cut (⟨t.toArray⟩:ByteArray).data.toList (⟨#[46]⟩:ByteArray).data.toList=(a,b,fd):=hcut
 rw [e4] at HC2
 have HLT:=hid hlt
 clear e1 e2 e3 e4 hcut hcut0 ht hneg gB b0 hMB hM hlab hlt
 go_enter Tryz.func13,Tryz.ntmps13
 go_upto_region 3 with fail
 rw [←hwB]
 clear hwB
 go_wp2_with fail
 refine (HP.out).mono ?_
 rintro e w1 ⟨rfl,rfl⟩
 go_wp2_with fail
 refine (HC.out).mono ?_
 rintro e w2 ⟨rfl,n0,rfl⟩
 have HC3:=HC2 n0
 go_wp2_with fail
 refine (HC3.out).mono ?_
 rintro e w2 ⟨rfl,n1,rfl⟩
 clear HP HC HC2 HC3
 have hkk:=HK0.out.call (Ai w1 n0)
 have HMB:=hid (show (w1.drewN n0).cell? ⟨1,0,none⟩=some (.int .i64 mx) from HMB.out)
 generalize w1.drewN n0=wc at hkk HMB ⊢
 have HK2:=hid (hkk.call (Ai wc n1))
 clear hkk
 have hM2:(wc.drewN n1).cell? ⟨1,0,none⟩=some (.int .i64 mx):=HMB.out
 have HB2:=hid True.intro
 generalize wc.drewN n1=w2 at HK2 hM2 ⊢
 obtain ⟨sa,hsa⟩:=eX (⟨a.toArray⟩:ByteArray)
 obtain ⟨sb,hsb⟩:=eX (⟨b.toArray⟩:ByteArray)
 have hza:sa.size=a.length:=by rw [hsa];show a.toArray.size=_;simp
 have hzb:sb.size=b.length:=by rw [hsb];show b.toArray.size=_;simp
 have hda:sa.data.toList=a:=by rw [hsa]
 have hdb:sb.data.toList=b:=by rw [hsb]
 rw [←hsa,←hsb]
 have HDA:=hid hda;have HDB:=hid hdb
 have hzai:((sa.size:Nat):Int)≤2000:=by omega
 have hzbi:((sb.size:Nat):Int)≤2000:=by omega
 have hza2:sa.size≤2000:=by omega
 have hzb2:sb.size≤2000:=by omega
 have hzb0:=hzb
 clear hsa hsb hza hzb hda hdb HMB
 subst hf
 have HW1:=hid (AT' (w:=w2) (s:=sa) (by omega))
 rw [HDA.out,h1] at HW1
 have HW2:=hid (CB (w:=w2) (s:=sb) (by omega))
 rw [HDB.out,h2] at HW2
 clear h2
 have hda:=AN' (AW' h1)
 have hab:(a++b).all AH'=true:=by rw [List.all_append,Bool.and_eq_true];exact ⟨hda,h3⟩
 have HLB:=hid hlb
 have hla2:=Bk hab
 have HL:=hid (show len (valL (a++b))≤4001 by rw [List.length_append] at hla2;omega)
 have HN1:Hid (∀ s0:ByteArray,s0.data.toList=a++b→Calls Tryz.prog 48 #[.string s0] w2 (AE' w2 (valL (a++b)))):=by
   intro s0 e
   have:=BG (w:=w2) (s0:=s0) (by rw [←AC',e,List.length_append];omega) (by rw [e];exact hab)
   rw [e] at this
   exact this
 have HQ:=hid hq
 have HB:=hid hzb0
 clear hq h1 h3 hda hab hla2 hzb0
 go_wp2_with (first | (go_at_call_of 46 (Value.string sa);refine (HW1.out).mono ?_;rintro e w3 ⟨rfl,rfl⟩) | (go_at_call_of 49 (Value.string sb);refine (HW2.out).mono ?_;rintro e w3 ⟨rfl,rfl⟩))
 go_wp2_with fail
 refine (HN1.out _ ?cat).mono ?_
 case cat =>
   show (sa++sb).data.toList=a++b
   rw [ByteArray.data_append,Array.toList_append,HDA.out,HDB.out]
 rintro e w4 ⟨v4,rfl,hv4,b4⟩
 have hten:Nt (w4.alloc (.cells #[.int .u64 10] 86)) (.slice (some ⟨w4.heap.size,0,none⟩) 1 1) 10:=CA' w4 (x:=10) (by decide) (by rw [Bh];decide)
 have hl10:len 10=1:=by decide +kernel
 have HP2:=hid (BE' (n:=sb.size) hten (by omega) (by rw [hl10];omega) (by rw [hl10];decide))
 have bA:Below w4.heap.size w4 (w4.alloc (.cells #[.int .u64 10] 86)):=(Below.refl _ _).alloc (nL _) _
 have hvA:=hv4.keep bA
 have HKA:=hid ((HK2.out.call b4).call bA)
 have hpb:len (10^sb.size)≤4001:=by
   have:=BA' 10 sb.size
   rw [hl10] at this
   omega
 clear b4 HN1 hten hl10 bA hv4
 go_wp2_with fail
 refine (HP2.out).mono ?_
 rintro e w5 ⟨v5,rfl,hv5,b5⟩
 have hv4':=hvA.keep b5
 have HK5:=hid (HKA.out.call b5)
 have HRD:=hid (Ci (neg:=neg) hv4' hv5 (Nat.pow_pos (by decide)) (nT HL.out (by decide)) (nT hpb (by decide)))
 rw [BV',HB.out,←HQ.out] at HRD
 clear b5 HP2 hv4' hv5 hvA HKA hpb HQ
 go_wp2_with fail
 refine (HRD.out).mono ?_
 rintro e w6 ⟨v6,rfl,hv6,b6⟩
 obtain ⟨C1,j1,C2,j2,rfl,-,-⟩:=hv6.opened
 have hk:=(HK5.out.call b6).held (Aj.refl _)
 clear b6 HRD
 obtain ⟨-,c0,c1',c2',f0,f1,f2,-⟩:=id hk
 have HD:=hk.done (q:=q) (b:=decide (q.num<0)) (A1:=C1) (n1:=len q.num.natAbs) (c1:=j1) (A2:=C2) (n2:=len (below q.den)) (c2:=j2) (hv6)
 obtain ⟨d1,d2,d3⟩:=HD
 obtain ⟨r0,r1,r2⟩:=Ab' d3
 have HD:=hid (And.intro d1 d2)
 clear d1 d2 d3
 go_wp2_with fail
 refine bP (v:=.tuple #[.agg #[.bool (decide (q.num<0)),.slice (C1) (len q.num.natAbs) (j1),.slice (C2) (len (below q.den)) (j2)],.int .i64 0]) ?_ rfl ⟨_,rfl,HD.out.1,Ae HB0.out (nL _) HD.out.2⟩
 simp [results,Tryz.results13,go_sem,r0,r1,r2]
def Ap' (s:ByteArray):Rat × Int :=
  if 2000<s.size then (0,5) else
    match CN' s.data.toList with
    | none=>(0,4)
    | some q=>(q,0)
theorem DM (l m:List UInt8) (h:(Lib.cut l m).2.2=false):(Lib.cut l m).2.1=[]:=by
 revert h
 unfold Lib.cut
 split
 · intro h;cases h
 · intro _;rfl
theorem Dj' {w:World} {s:ByteArray} {mx:Int} (hM:w.cell? ⟨1,0,none⟩=some (.int .i64 mx)) :
   Calls Tryz.prog 13 #[.string s] w (AI w (Ap' s).1 (Ap' s).2):=by
 rcases Nat.lt_or_ge 2000 s.size with h | h
 · have e:Ap' s=(0,5):=if_pos h
   rw [e]
   exact CX' h
 · obtain ⟨t,ht⟩:=eX (Lib.trimPrefix s.data.toList [45])
   obtain ⟨neg,hneg⟩:=eX (Lib.hasPrefix s.data.toList [45])
   have e:Ap' s=match CN' s.data.toList with
     | none=>(0,4)
     | some q=>(q,0):=if_neg (by omega)
   obtain ⟨⟨a,b,fd⟩,hc⟩:∃ c,Lib.cut t [47]=c:=⟨_,rfl⟩
   obtain ⟨⟨c,d,gd⟩,hc2⟩:∃ c,Lib.cut t [46]=c:=⟨_,rfl⟩
   have hn:=DM t [46]
   rw [hc2] at hn
   unfold CN' at e
   rw [←ht,←hneg,hc,hc2] at e
   rcases fd with _ | _
   · rw [if_neg (show ¬ ((a,b,false).snd.snd=true) from fun h9=>by cases h9)] at e
     rcases h1:Aq' c with _ | _
     · rw [if_neg (by rintro ⟨h2,-⟩;rw [h1] at h2;cases h2)] at e
       rw [e]
       exact EJ' h hM ht hneg hc hc2 h1
     · rcases gd with _ | _
       · rw [if_pos ⟨h1,by intro h2;cases h2⟩] at e
         rw [e]
         have hd:d=[]:=hn rfl
         exact EK' h hM ht hneg hc hc2 rfl h1 (by rw [hd];rfl) rfl
       · rcases h2:AT d with _ | _
         · rw [if_neg (by rintro ⟨-,h3⟩;have:=h3 rfl;rw [h2] at this;cases this)] at e
           rw [e]
           exact EK h hM ht hneg hc hc2 rfl h1 h2
         · rw [if_pos ⟨h1,fun _=>h2⟩] at e
           rw [e]
           exact EL h hM ht hneg hc hc2 rfl h2 h1 (AN' h2) rfl
   · rw [if_pos rfl] at e
     rcases h1:Aq' a with _ | _
     · rw [if_neg (by rintro ⟨h2,-⟩;rw [h1] at h2;cases h2)] at e
       rw [e]
       exact EH' h hM ht hneg hc rfl h1
     · rcases h2:Aq' b with _ | _
       · rw [if_neg (by rintro ⟨-,h3,-⟩;rw [h2] at h3;cases h3)] at e
         rw [e]
         exact EI h hM ht hneg hc rfl h1 h2
       · rcases Decidable.em (b=[48]) with h3 | h3
         · rw [if_neg (by rintro ⟨-,-,h4⟩;exact h4 h3)] at e
           rw [e]
           exact EI' h hM ht hneg hc rfl h1 h2 h3
         · rw [if_pos ⟨h1,h2,h3⟩] at e
           rw [e]
           exact EJ h hM ht hneg hc rfl h1 h2 h3 rfl
def At' (w:World) (b:Bool) (e:Ending) (w':World):Prop:=e=.returned (.bool b)∧Below w.heap.size w w'
theorem G5 {n:Int} {d:Nat} (h:¬ n<0):((n.natAbs / d:Nat):Int)=n / (d:Int):=by
 rw [Int.natCast_ediv,Int.natAbs_of_nonneg (by omega)]
theorem Jk {n:Int} {d:Nat} (h:n<0) (hd:0<d) (hr:n.natAbs%d=0) : -((n.natAbs / d:Nat):Int)=n / (d:Int):=by
 obtain ⟨k,hk⟩:=Nat.dvd_of_mod_eq_zero hr
 have e:n = -((d:Int)*(k:Int)):=by
   have:((n.natAbs:Nat):Int)=((d*k:Nat):Int):=by rw [hk]
   rw [Int.natCast_mul] at this
   omega
 rw [hk,Nat.mul_div_cancel_left _ hd,e,←Int.mul_neg,Int.mul_ediv_cancel_left _ (by omega)]
theorem IU {n:Int} {d:Nat} (h:n<0) (hd:0<d) (hr:0<n.natAbs%d) : -((n.natAbs / d+1:Nat):Int)=n / (d:Int):=by
 have h1:=Nat.div_add_mod n.natAbs d
 have h2:=Nat.mod_lt n.natAbs hd
 obtain ⟨q,hq⟩:=eX (n.natAbs / d)
 obtain ⟨r,hr2⟩:=eX (n.natAbs%d)
 rw [←hq,←hr2] at h1
 rw [←hr2] at h2 hr
 rw [←hq]
 have e:n=((d - r:Nat):Int)+(d:Int) * -((q+1:Nat):Int):=by
   have h3:((d*q+r:Nat):Int)=((n.natAbs:Nat):Int):=by rw [h1]
   have h4:(d:Int) * -((q+1:Nat):Int) = -((d*q:Nat):Int) - d:=by
     rw [Int.natCast_add,Int.natCast_mul,Int.mul_neg,Int.mul_add];simp;omega
   rw [h4]
   omega
 rw [e,Int.add_mul_ediv_left _ _ (by omega),Int.ediv_eq_zero_of_lt (by omega) (by omega),Int.zero_add]
theorem G5' {w:World} {vx:Value} {x q:Rat} (hx:Ac' w vx x) (hq:q=mkRat (x.num / (x.den:Int)) 1) (hs:Aa' x≤34359738368) (h:¬ x.num<0) :
   Calls Tryz.prog 67 #[vx] w (Ar' w q):=by
 obtain ⟨A1,c1,A2,c2,rfl,hx1,hx2⟩:=hx.opened
 obtain ⟨wB,hwB⟩:=eX ((w.alloc (.cells #[.bool (decide (x.num<0)),.slice A1 (len x.num.natAbs) c1,.slice A2 (len (below x.den)) c2] 33)).alloc (.cells #[.bool false,.slice none 0 0,.slice none 0 0] 33))
 obtain ⟨b0,gA,gB⟩:=AA' hwB
 obtain ⟨k0,k1,k2⟩:=Ab' gA
 have HK0:=hid (Ai'.start (T:=33) rfl (Au _ _ _ _ _ _ _) gB)
 have HB0:=hid b0
 have hlt1:w.heap.size<w.heap.size+1:=by omega
 clear gA gB b0
 have hd:decide (x.num<0)=false:=dF_ h
 rw [hd] at k0 hwB hx ⊢
 clear hd
 have hl1:=Al' x
 have hl2:=Am x
 have HS:=hid (And.intro (nT hl1 hs) (nT hl2 hs))
 have HV:=hid (show mkRat (sgn false (x.num.natAbs / x.den)) 1=q by rw [hq];congr 1;exact G5 h)
 have H0:=HK0.out.begin
 have hx1':=hx1.keep HB0.out
 have HY:=fun (w':World) (hk:Af' wB (w.heap.size+1) wB w')=>hid (As (hx.keep (Ae HB0.out (by omega) hk.kept.1)))
 have hdp:0<x.den:=x.den_pos
 clear hq hs hl1 hl2
 go_enter Tryz.func67,Tryz.ntmps67
 go_upto_region 1 with fail
 rw [←hwB]
 clear hwB
 go_wp2_with fail
 clear h
 go_region_held3 (fun w'=>(∀ b o,b<w.heap.size+1→w'.cell? ⟨b,o,none⟩=wB.cell? ⟨b,o,none⟩)∧w'.cell? ⟨w.heap.size+1,0,none⟩=some (cur w' ⟨w.heap.size+1,0,none⟩)∧w'.cell? ⟨w.heap.size+1,1,none⟩=some (cur w' ⟨w.heap.size+1,1,none⟩)∧w'.cell? ⟨w.heap.size+1,2,none⟩=some (cur w' ⟨w.heap.size+1,2,none⟩)∧w'.frozen? ⟨w.heap.size+1,0,none⟩=false∧w'.frozen? ⟨w.heap.size+1,1,none⟩=false∧w'.frozen? ⟨w.heap.size+1,2,none⟩=false∧Ai' 3 33 wB (w.heap.size+1) w'∧Aj wB w')
   (first | exact H0 | exact hk3 | exact hk2)
   (first | (go_at_call 51;refine ((HY _ ?_).out).mono ?_;assumption;rintro e w2 ⟨v2,rfl,hv2,hbl2⟩;have hk2:=Af'.call (by assumption) hbl2) | (go_at_call 115;refine (Cb' (hk2.stay _ _ hx1') hv2 (nT HS.out.1 (by decide)) hdp).mono ?_;rintro e w3 ⟨v3,u3,rfl,hv3,hu3,hbl3⟩;obtain ⟨B3,e3,rfl,-⟩:=id hu3;have hk3:=Af'.call (by assumption) hbl3))
 rename_i hHl
 clear hHl
 have HK3:=hid hk3.kept
 have q0:=(hk3.1 _ _ hlt1).trans k0
 clear hk2 hk3 H0 k0 k1 k2 HY hx hx1' hx1 hx2 hv2 hbl2 hbl3 hu3
 have HF:=hid (BI (neg:=false) hv3 HV.out)
 clear hv3
 go_wp2_with fail
 refine (HF.out).mono ?_
 rintro e w5 ⟨v5,rfl,hv5,b5⟩
 obtain ⟨C1,j1,C2,j2,rfl,-,-⟩:=hv5.opened
 have hk:=(HK3.out.call b5).held (Aj.refl _)
 clear b5 HF q0
 obtain ⟨-,c0,c1',c2',f0,f1,f2,-⟩:=id hk
 have HD:=hk.done (q:=q) (b:=decide (q.num<0)) (A1:=C1) (n1:=len q.num.natAbs) (c1:=j1) (A2:=C2) (n2:=len (below q.den)) (c2:=j2) (hv5)
 obtain ⟨d1,d2,d3⟩:=HD
 obtain ⟨r0,r1,r2⟩:=Ab' d3
 have HD:=hid (And.intro d1 d2)
 clear d1 d2 d3
 go_wp2_with fail
 refine bP (v:=.agg #[.bool (decide (q.num<0)),.slice (C1) (len q.num.natAbs) (j1),.slice (C2) (len (below q.den)) (j2)]) ?_ rfl ⟨_,rfl,HD.out.1,Ae HB0.out (by omega) HD.out.2⟩
 simp [results,Tryz.results67,go_sem,r0,r1,r2]
theorem G6 {w:World} {vx:Value} {x q:Rat} (hx:Ac' w vx x) (hq:q=mkRat (x.num / (x.den:Int)) 1) (hs:Aa' x≤34359738368) (h:x.num<0) (hr:x.num.natAbs%x.den=0) :
   Calls Tryz.prog 67 #[vx] w (Ar' w q):=by
 obtain ⟨A1,c1,A2,c2,rfl,hx1,hx2⟩:=hx.opened
 obtain ⟨wB,hwB⟩:=eX ((w.alloc (.cells #[.bool (decide (x.num<0)),.slice A1 (len x.num.natAbs) c1,.slice A2 (len (below x.den)) c2] 33)).alloc (.cells #[.bool false,.slice none 0 0,.slice none 0 0] 33))
 obtain ⟨b0,gA,gB⟩:=AA' hwB
 obtain ⟨k0,k1,k2⟩:=Ab' gA
 have HK0:=hid (Ai'.start (T:=33) rfl (Au _ _ _ _ _ _ _) gB)
 have HB0:=hid b0
 have hlt1:w.heap.size<w.heap.size+1:=by omega
 clear gA gB b0
 have hd:decide (x.num<0)=true:=dT_ h
 rw [hd] at k0 hwB hx ⊢
 clear hd
 have hl1:=Al' x
 have hl2:=Am x
 have HS:=hid (And.intro (nT hl1 hs) (nT hl2 hs))
 have HV:=hid (show mkRat (sgn true (x.num.natAbs / x.den)) 1=q by rw [hq];congr 1;exact Jk h x.den_pos hr)
 have H0:=HK0.out.begin
 have hx1':=hx1.keep HB0.out
 have HY:=fun (w':World) (hk:Af' wB (w.heap.size+1) wB w')=>hid (As (hx.keep (Ae HB0.out (by omega) hk.kept.1)))
 have hdp:0<x.den:=x.den_pos
 clear hq hs hl1 hl2
 go_enter Tryz.func67,Tryz.ntmps67
 go_upto_region 1 with fail
 rw [←hwB]
 clear hwB
 go_wp2_with fail
 have HR:=hid hr
 clear h hr
 go_region_held3 (fun w'=>(∀ b o,b<w.heap.size+1→w'.cell? ⟨b,o,none⟩=wB.cell? ⟨b,o,none⟩)∧w'.cell? ⟨w.heap.size+1,0,none⟩=some (cur w' ⟨w.heap.size+1,0,none⟩)∧w'.cell? ⟨w.heap.size+1,1,none⟩=some (cur w' ⟨w.heap.size+1,1,none⟩)∧w'.cell? ⟨w.heap.size+1,2,none⟩=some (cur w' ⟨w.heap.size+1,2,none⟩)∧w'.frozen? ⟨w.heap.size+1,0,none⟩=false∧w'.frozen? ⟨w.heap.size+1,1,none⟩=false∧w'.frozen? ⟨w.heap.size+1,2,none⟩=false∧Ai' 3 33 wB (w.heap.size+1) w'∧Aj wB w')
   (first | exact H0 | exact hk3 | exact hk2)
   (first | (go_at_call 51;refine ((HY _ ?_).out).mono ?_;assumption;rintro e w2 ⟨v2,rfl,hv2,hbl2⟩;have hk2:=Af'.call (by assumption) hbl2) | (go_at_call 115;refine (Cb' (hk2.stay _ _ hx1') hv2 (nT HS.out.1 (by decide)) hdp).mono ?_;rintro e w3 ⟨v3,u3,rfl,hv3,hu3,hbl3⟩;obtain ⟨B3,e3,rfl,-⟩:=id hu3;have hk3:=Af'.call (by assumption) hbl3))
 rename_i hHl
 clear hHl
 have HK3:=hid hk3.kept
 have q0:=(hk3.1 _ _ hlt1).trans k0
 clear hk2 hk3 H0 k0 k1 k2 HY hx hx1' hx1 hx2 hv2 hbl2 hbl3 hu3
 have HF:=hid (BI (neg:=true) hv3 HV.out)
 clear hv3
 have hl:len (x.num.natAbs%x.den)=0:=by rw [HR.out,Ax']
 rw [hl]
 clear hl HR
 go_wp2_with fail
 refine (HF.out).mono ?_
 rintro e w5 ⟨v5,rfl,hv5,b5⟩
 obtain ⟨C1,j1,C2,j2,rfl,-,-⟩:=hv5.opened
 have hk:=(HK3.out.call b5).held (Aj.refl _)
 clear b5 HF q0
 obtain ⟨-,c0,c1',c2',f0,f1,f2,-⟩:=id hk
 have HD:=hk.done (q:=q) (b:=decide (q.num<0)) (A1:=C1) (n1:=len q.num.natAbs) (c1:=j1) (A2:=C2) (n2:=len (below q.den)) (c2:=j2) (hv5)
 obtain ⟨d1,d2,d3⟩:=HD
 obtain ⟨r0,r1,r2⟩:=Ab' d3
 have HD:=hid (And.intro d1 d2)
 clear d1 d2 d3
 go_wp2_with fail
 refine bP (v:=.agg #[.bool (decide (q.num<0)),.slice (C1) (len q.num.natAbs) (j1),.slice (C2) (len (below q.den)) (j2)]) ?_ rfl ⟨_,rfl,HD.out.1,Ae HB0.out (by omega) HD.out.2⟩
 simp [results,Tryz.results67,go_sem,r0,r1,r2]
theorem Gl' {w:World} {vx:Value} {x q:Rat} (hx:Ac' w vx x) (hq:q=mkRat (x.num / (x.den:Int)) 1) (hs:Aa' x≤34359738368) (h:x.num<0) (hr:0<x.num.natAbs%x.den) :
   Calls Tryz.prog 67 #[vx] w (Ar' w q):=by
 obtain ⟨A1,c1,A2,c2,rfl,hx1,hx2⟩:=hx.opened
 obtain ⟨wB,hwB⟩:=eX ((w.alloc (.cells #[.bool (decide (x.num<0)),.slice A1 (len x.num.natAbs) c1,.slice A2 (len (below x.den)) c2] 33)).alloc (.cells #[.bool false,.slice none 0 0,.slice none 0 0] 33))
 obtain ⟨b0,gA,gB⟩:=AA' hwB
 obtain ⟨k0,k1,k2⟩:=Ab' gA
 have HK0:=hid (Ai'.start (T:=33) rfl (Au _ _ _ _ _ _ _) gB)
 have HB0:=hid b0
 have hlt1:w.heap.size<w.heap.size+1:=by omega
 clear gA gB b0
 have hd:decide (x.num<0)=true:=dT_ h
 rw [hd] at k0 hwB hx ⊢
 clear hd
 have hl1:=Al' x
 have hl2:=Am x
 have HS:=hid (And.intro (nT hl1 hs) (nT hl2 hs))
 have HV:=hid (show mkRat (sgn true (x.num.natAbs / x.den+1)) 1=q by rw [hq];congr 1;exact IU h x.den_pos hr)
 have H0:=HK0.out.begin
 have hx1':=hx1.keep HB0.out
 have HY:=fun (w':World) (hk:Af' wB (w.heap.size+1) wB w')=>hid (As (hx.keep (Ae HB0.out (by omega) hk.kept.1)))
 have hdp:0<x.den:=x.den_pos
 clear hq hs hl1 hl2
 go_enter Tryz.func67,Tryz.ntmps67
 go_upto_region 1 with fail
 rw [←hwB]
 clear hwB
 go_wp2_with fail
 have HR:=hid hr
 clear h hr
 go_region_held3 (fun w'=>(∀ b o,b<w.heap.size+1→w'.cell? ⟨b,o,none⟩=wB.cell? ⟨b,o,none⟩)∧w'.cell? ⟨w.heap.size+1,0,none⟩=some (cur w' ⟨w.heap.size+1,0,none⟩)∧w'.cell? ⟨w.heap.size+1,1,none⟩=some (cur w' ⟨w.heap.size+1,1,none⟩)∧w'.cell? ⟨w.heap.size+1,2,none⟩=some (cur w' ⟨w.heap.size+1,2,none⟩)∧w'.frozen? ⟨w.heap.size+1,0,none⟩=false∧w'.frozen? ⟨w.heap.size+1,1,none⟩=false∧w'.frozen? ⟨w.heap.size+1,2,none⟩=false∧Ai' 3 33 wB (w.heap.size+1) w'∧Aj wB w')
   (first | exact H0 | exact hk3 | exact hk2)
   (first | (go_at_call 51;refine ((HY _ ?_).out).mono ?_;assumption;rintro e w2 ⟨v2,rfl,hv2,hbl2⟩;have hk2:=Af'.call (by assumption) hbl2) | (go_at_call 115;refine (Cb' (hk2.stay _ _ hx1') hv2 (nT HS.out.1 (by decide)) hdp).mono ?_;rintro e w3 ⟨v3,u3,rfl,hv3,hu3,hbl3⟩;obtain ⟨B3,e3,rfl,-⟩:=id hu3;have hk3:=Af'.call (by assumption) hbl3))
 rename_i hHl
 clear hHl
 have HK3:=hid hk3.kept
 have q0:=(hk3.1 _ _ hlt1).trans k0
 clear hk2 hk3 H0 k0 k1 k2 HY hx hx1' hx1 hx2 hv2 hbl2 hbl3 hu3
 have hl:(0:Int)<((len (x.num.natAbs%x.den):Nat):Int):=by have:=Aj'.2 HR.out;omega
 have hlw:w.heap.size<w3.heap.size:=by have:=HK3.out.block_lt;omega
 have bA:Below w3.heap.size w3 (w3.alloc (.cells #[.int .u64 1] 86)):=(Below.refl _ _).alloc (nL _) _
 have hone:Nt (w3.alloc (.cells #[.int .u64 1] 86)) (.slice (some ⟨w3.heap.size,0,none⟩) 1 1) 1:=CA' w3 (x:=1) (by decide) (by rw [Bh];decide)
 have hlq:len (x.num.natAbs / x.den)≤34359738368:=nT (Ah (Nat.div_le_self _ _)) HS.out.1
 have HA:=hid (Ca' (hv3.keep bA) hone (nT hlq (by decide)) (by rw [A0'];decide))
 have HB:=hid bA
 clear HR bA hone hlq hv3
 go_wp2_with fail
 refine (HA.out).mono ?_
 rintro e w4 ⟨v4,rfl,hv4,b4⟩
 have q0:w4.cell? ⟨w.heap.size,0,none⟩=some (.bool true):=((chain HB.out b4).cell (p:=⟨w.heap.size,0,none⟩) hlw).trans q0
 have HK3:=hid (HK3.out.call (chain HB.out b4))
 have HF:=hid (BI (neg:=true) hv4 HV.out)
 clear HA HB b4 hv4
 go_wp2_with fail
 refine (HF.out).mono ?_
 rintro e w5 ⟨v5,rfl,hv5,b5⟩
 obtain ⟨C1,j1,C2,j2,rfl,-,-⟩:=hv5.opened
 have hk:=(HK3.out.call b5).held (Aj.refl _)
 clear b5 HF q0
 obtain ⟨-,c0,c1',c2',f0,f1,f2,-⟩:=id hk
 have HD:=hk.done (q:=q) (b:=decide (q.num<0)) (A1:=C1) (n1:=len q.num.natAbs) (c1:=j1) (A2:=C2) (n2:=len (below q.den)) (c2:=j2) (hv5)
 obtain ⟨d1,d2,d3⟩:=HD
 obtain ⟨r0,r1,r2⟩:=Ab' d3
 have HD:=hid (And.intro d1 d2)
 clear d1 d2 d3
 go_wp2_with fail
 refine bP (v:=.agg #[.bool (decide (q.num<0)),.slice (C1) (len q.num.natAbs) (j1),.slice (C2) (len (below q.den)) (j2)]) ?_ rfl ⟨_,rfl,HD.out.1,Ae HB0.out (by omega) HD.out.2⟩
 simp [results,Tryz.results67,go_sem,r0,r1,r2]
theorem Dk {w:World} {vx:Value} {x:Rat} (hx:Ac' w vx x) (hs:Aa' x≤34359738368) :
   Calls Tryz.prog 67 #[vx] w (Ar' w (mkRat (x.num / (x.den:Int)) 1)):=by
 rcases Decidable.em (x.num<0) with h | h
 · rcases Nat.eq_zero_or_pos (x.num.natAbs%x.den) with hr | hr
   · exact G6 hx rfl hs h hr
   · exact Gl' hx rfl hs h hr
 · exact G5' hx rfl hs h
def Co (x:Rat):Rat:=mkRat (x.num / (x.den:Int)) 1
theorem Eg (x:Rat):Aa' (Co x)≤Aa' x:=by
 refine nT (Cz _ _) ?_
 have h1:=Ah (Int.natAbs_ediv_le_natAbs x.num (x.den:Int))
 have h2:=Al' x
 have h3:=Dt x
 have h4:=A0'
 omega
theorem Gm {w:World} {vx:Value} {x:Rat} (hx:Ac' w vx x) (hs:Aa' x≤34359738368) :
   Calls Tryz.prog 67 #[vx] w (Ar' w (Co x)):=Dk hx hs
theorem IU' {w:World} {vx:Value} {x q:Rat} (hx:Ac' w vx x) (hq : -Co (-x)=q) (hs:Aa' x≤34359738368) :
   Calls Tryz.prog 68 #[vx] w (Ar' w q):=by
 obtain ⟨A1,c1,A2,c2,rfl,hx1,hx2⟩:=hx.opened
 obtain ⟨wB,hwB⟩:=eX ((w.alloc (.cells #[.bool (decide (x.num<0)),.slice A1 (len x.num.natAbs) c1,.slice A2 (len (below x.den)) c2] 33)).alloc (.cells #[.bool false,.slice none 0 0,.slice none 0 0] 33))
 obtain ⟨b0,gA,gB⟩:=AA' hwB
 obtain ⟨k0,k1,k2⟩:=Ab' gA
 have HK0:=hid (Ai'.start (T:=33) rfl (Au _ _ _ _ _ _ _) gB)
 have HB0:=hid b0
 have hlt1:w.heap.size<w.heap.size+1:=by omega
 clear gA gB b0
 have HX:=hid (DX' (hx.keep HB0.out) (nT hs (by decide)))
 have HQ:=hid hq
 obtain ⟨y,hy⟩:=eX (-x)
 obtain ⟨z,hz⟩:=eX (Co y)
 have hsy:Aa' y≤34359738368:=by rw [hy,CM'];exact hs
 have hsz:Aa' z≤34359738368:=by rw [hz];exact nT (Eg y) hsy
 have HZ:=hid hz
 have HQ:=hid (show -z=q by rw [hz,hy];exact hq)
 have HS:=hid (And.intro hsy hsz)
 rw [←hy] at HX
 clear hy hz hq hs hsy hsz
 go_enter Tryz.func68,Tryz.ntmps68
 go_upto_region 1 with fail
 rw [←hwB]
 clear hwB
 go_wp2_with fail
 refine (HX.out).mono ?_
 rintro e w1 ⟨v1,rfl,hv1,b1⟩
 have HF:=hid (Gm hv1 HS.out.1)
 rw [←HZ.out] at HF
 have HK1:=hid (HK0.out.call b1)
 clear b1 HX
 go_wp2_with fail
 refine (HF.out).mono ?_
 rintro e w2 ⟨v2,rfl,hv2,b2⟩
 have HN:=hid (DX' hv2 (nT HS.out.2 (by decide)))
 rw [HQ.out] at HN
 have HK2:=hid (HK1.out.call b2)
 clear b2 HF
 go_wp2_with fail
 refine (HN.out).mono ?_
 rintro e w5 ⟨v5,rfl,hv5,b5⟩
 obtain ⟨C1,j1,C2,j2,rfl,-,-⟩:=hv5.opened
 have hk:=(HK2.out.call b5).held (Aj.refl _)
 clear b5 HN
 obtain ⟨-,c0,c1',c2',f0,f1,f2,-⟩:=id hk
 have HD:=hk.done (q:=q) (b:=decide (q.num<0)) (A1:=C1) (n1:=len q.num.natAbs) (c1:=j1) (A2:=C2) (n2:=len (below q.den)) (c2:=j2) (hv5)
 obtain ⟨d1,d2,d3⟩:=HD
 obtain ⟨r0,r1,r2⟩:=Ab' d3
 have HD:=hid (And.intro d1 d2)
 clear d1 d2 d3
 go_wp2_with fail
 refine bP (v:=.agg #[.bool (decide (q.num<0)),.slice (C1) (len q.num.natAbs) (j1),.slice (C2) (len (below q.den)) (j2)]) ?_ rfl ⟨_,rfl,HD.out.1,Ae HB0.out (by omega) HD.out.2⟩
 simp [results,Tryz.results68,go_sem,r0,r1,r2]
theorem FC' {w:World} {vx:Value} {x:Rat} (hx:Ac' w vx x) (hs:Aa' x≤34359738368) :
   Calls Tryz.prog 68 #[vx] w (Ar' w (-Co (-x))):=IU' hx rfl hs
def Cq' (w:World) (B:Nat) (v0 v1 v2:Value):Prop:=w.cell? ⟨B,0,none⟩=some v0∧w.cell? ⟨B,1,none⟩=some v1∧w.cell? ⟨B,2,none⟩=some v2
theorem Cq'.call {w w':World} {B:Nat} {v0 v1 v2:Value} (h:Cq' w B v0 v1 v2) (hb:Below w.heap.size w w'):Cq' w' B v0 v1 v2:=by
 have hl:=bL w _ h.1
 exact ⟨(hb.cell (p:=⟨B,0,none⟩) hl).trans h.1,(hb.cell (p:=⟨B,1,none⟩) hl).trans h.2.1,(hb.cell (p:=⟨B,2,none⟩) hl).trans h.2.2⟩
theorem Cq'.drew {w:World} {B:Nat} {v0 v1 v2:Value} (h:Cq' w B v0 v1 v2):Cq' w.drew B v0 v1 v2:=h.call ⟨rfl,rfl,rfl,nL _,fun _ _=>rfl⟩
theorem Cq'.put {w:World} {B G:Nat} {v0 v1 v2:Value} (h:Cq' w B v0 v1 v2) (hne:B≠G) (i:Nat) (v:Value):Cq' (w.setCell ⟨G,i,none⟩ v) B v0 v1 v2:=by
 refine ⟨?_,?_,?_⟩ <;> rw [World.cell?_setCell_other _ _ _ _ (by intro e;injection e with e1;omega)]
 · exact h.1
 · exact h.2.1
 · exact h.2.2
end Go.Proofs.YtbigkkjnhcpgiaaGreatDoor
