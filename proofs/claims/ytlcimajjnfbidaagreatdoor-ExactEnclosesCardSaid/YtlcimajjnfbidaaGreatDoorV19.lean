/-
  Contracts of the functions that the law calls, for every input (Txk LawA).
-/
import Derived.Test.YtlcimajjnfbidaaGreatDoorV00
import Derived.Test.YtlcimajjnfbidaaGreatDoorV18
import Derived.Test.YtlcimajjnfbidaaGreatDoorV12
set_option linter.all false
set_option maxRecDepth 100000
set_option maxHeartbeats 40000000
namespace Go.Proofs.YtlcimajjnfbidaaGreatDoor
open Lib (hid)
open Go.RowKit
open Vx
def parseL (l:List UInt8):Option Rat :=
  if (Lib.cut (Lib.trimPrefix l [45]) [47]).2.2=true then
    if wholeB (Lib.cut (Lib.trimPrefix l [45]) [47]).1=true∧wholeB (Lib.cut (Lib.trimPrefix l [45]) [47]).2.1=true∧(Lib.cut (Lib.trimPrefix l [45]) [47]).2.1≠[48] then
      some (mkRat (sgn (Lib.hasPrefix l [45]) (valL (Lib.cut (Lib.trimPrefix l [45]) [47]).1)) (valL (Lib.cut (Lib.trimPrefix l [45]) [47]).2.1))
    else none
  else
    if wholeB (Lib.cut (Lib.trimPrefix l [45]) [46]).1=true∧((Lib.cut (Lib.trimPrefix l [45]) [46]).2.2=true→digB (Lib.cut (Lib.trimPrefix l [45]) [46]).2.1=true) then
      some (mkRat (sgn (Lib.hasPrefix l [45]) (valL ((Lib.cut (Lib.trimPrefix l [45]) [46]).1++(Lib.cut (Lib.trimPrefix l [45]) [46]).2.1))) (10^(Lib.cut (Lib.trimPrefix l [45]) [46]).2.1.length))
    else none
theorem dig_all {l:List UInt8} (h:digB l=true):l.all digC=true:=by
 unfold digB at h
 rw [Bool.and_eq_true] at h
 exact h.2
theorem whole_dig {l:List UInt8} (h:wholeB l=true):digB l=true:=by
 unfold wholeB at h
 rw [Bool.and_eq_true] at h
 exact h.1
theorem whole_pos {l:List UInt8} (h:wholeB l=true) (h0:l≠[48]):0<valL l:=by
 have hd:=whole_dig h
 unfold wholeB at h
 rw [hd,Bool.true_and,Bool.or_eq_true] at h
 have h1:l.headD 0≠48:=by
   rcases h with h | h
   · simpa using h
   · exact absurd (by simpa using h) h0
 match l,hd,h1 with
 | [],hd,_=>cases hd
 | c::l,hd,h1 =>
   have ha:=dig_all hd
   rw [List.all_cons,Bool.and_eq_true] at ha
   have h2:48≤c.toNat∧c.toNat≤57:=by
     have:=ha.1
     simp [digC] at this
     exact this
   have h3:c.toNat≠48:=fun e=>h1 (by show c=48;exact UInt8.toNat_inj.1 e)
   have e:valL (c::l)=(c.toNat - 48)*10^l.length+valL l:=by
     have:=valL_from l (0*10+(c.toNat - 48))
     have e0:0*10+(c.toNat - 48)=c.toNat - 48:=by omega
     show List.foldl _ (0*10+(c.toNat - 48)) l=_
     rw [this,e0]
   have h4:0<(c.toNat - 48)*10^l.length:=Nat.mul_pos (by omega) (Nat.pow_pos (by decide))
   omega
theorem cut_len (l m:List UInt8):(Lib.cut l m).1.length≤l.length∧(Lib.cut l m).2.1.length≤l.length:=by
 unfold Lib.cut
 split
 · simp only [List.length_take,List.length_drop]
   omega
 · simp
theorem trim_len (l m:List UInt8):(Lib.trimPrefix l m).length≤l.length:=by
 unfold Lib.trimPrefix
 split
 · simp only [List.length_drop];omega
 · exact Nat.le_refl _
theorem parse_long {w:World} {s:ByteArray} (hs:2000<s.size):Calls Tryz.prog 54 #[.string s] w (NumErrRet w 0 5):=by
 have hsi:(2000:Int)<((s.size:Nat):Int):=by omega
 obtain ⟨wB,hwB⟩:=eX (w.alloc (.cells #[.bool false,.slice none 0 0,.slice none 0 0] 31))
 have b0:Below w.heap.size w wB:=by rw [hwB];exact (Below.refl _ _).alloc (Nat.le_refl _) _
 have gB:wB.heap[w.heap.size]?=some (.cells #[.bool false,.slice none 0 0,.slice none 0 0] 31 (0,0)):=by rw [hwB];exact heap_alloc_new w _
 have hk:=(Kept.start (T:=31) rfl (plain3 _ _ _ _ _ _ _) gB).held (Stay.refl _)
 have HB0:=hid b0
 obtain ⟨-,c0,c1',c2',f0,f1,f2,-⟩:=id hk
 clear gB b0
 go_enter Tryz.func54,Tryz.ntmps54
 go_upto_region 2 with fail
 rw [←hwB]
 clear hwB
 have HD:=hk.done (q:=0) (b:=false) (A1:=none) (n1:=0) (c1:=0) (A2:=none) (n2:=0) (c2:=0) (zero_num _)
 obtain ⟨d1,d2,d3⟩:=HD
 obtain ⟨r0,r1,r2⟩:=cells3 d3
 have HD:=hid (And.intro d1 d2)
 clear d1 d2 d3
 go_wp2_with fail
 refine bodyPost_ret (v:=.tuple #[.agg #[.bool (false),.slice (none) (0) (0),.slice (none) (0) (0)],.int .i64 5]) ?_ rfl ⟨_,rfl,HD.out.1,below_to HB0.out (Nat.le_refl _) HD.out.2⟩
 simp [results,Tryz.results54,go_sem,r0,r1,r2]
theorem parse_slash_a {w:World} {s:ByteArray} {mx:Int} (hs:s.size≤2000) (hM:w.cell? ⟨1,0,none⟩=some (.int .i64 mx)) {t:List UInt8} {neg:Bool} (ht:t=Lib.trimPrefix s.data.toList [45]) (hneg:neg=Lib.hasPrefix s.data.toList [45])
   {a b:List UInt8} {fd:Bool} (hcut:Lib.cut t [47]=(a,b,fd)) (hf:fd=true) (h1:wholeB a=false) :
   Calls Tryz.prog 54 #[.string s] w (NumErrRet w (0) 4):=by
 have hsi:((s.size:Nat):Int)≤2000:=by omega
 have hlt:t.length≤2000:=by
   rw [ht]
   exact Nat.le_trans (trim_len _ _) (by rw [size_data];exact hs)
 have hlab:=cut_len t [47]
 rw [hcut] at hlab
 have hla:a.length≤2000:=Nat.le_trans hlab.1 hlt
 have hlb:b.length≤2000:=Nat.le_trans hlab.2 hlt
 obtain ⟨wB,hwB⟩:=eX (w.alloc (.cells #[.bool false,.slice none 0 0,.slice none 0 0] 31))
 have b0:Below w.heap.size w wB:=by rw [hwB];exact (Below.refl _ _).alloc (Nat.le_refl _) _
 have gB:wB.heap[w.heap.size]?=some (.cells #[.bool false,.slice none 0 0,.slice none 0 0] 31 (0,0)):=by rw [hwB];exact heap_alloc_new w _
 have HK0:=hid (Kept.start (T:=31) rfl (plain3 _ _ _ _ _ _ _) gB)
 have HB0:=hid b0
 have hMB:wB.cell? ⟨1,0,none⟩=some (.int .i64 mx):=(b0.cell (p:=⟨1,0,none⟩) (World.block_lt_of_cell? w _ hM)).trans hM
 have HMB:=hid hMB
 have HP:=hid (Tryz.strings_CutPrefix s ⟨#[45]⟩ wB)
 have e1:Lib.trimPrefix s.data.toList (⟨#[45]⟩:ByteArray).data.toList=t:=ht.symm
 have e2:Lib.hasPrefix s.data.toList (⟨#[45]⟩:ByteArray).data.toList=neg:=hneg.symm
 rw [e1,e2] at HP
 have HC:=hid (Tryz.strings_Cut ⟨t.toArray⟩ ⟨#[47]⟩ mx wB (by show t.toArray.size<_;rw [List.size_toArray];omega) hMB)
 have e3:Lib.cut (⟨t.toArray⟩:ByteArray).data.toList (⟨#[47]⟩:ByteArray).data.toList=(a,b,fd):=hcut
 rw [e3] at HC
 have HLT:=hid hlt
 clear e1 e2 e3 hcut ht hneg gB b0 hMB hM hlab hlt
 go_enter Tryz.func54,Tryz.ntmps54
 go_upto_region 3 with fail
 rw [←hwB]
 clear hwB
 go_wp2_with fail
 refine (HP.out).mono ?_
 rintro e w1 ⟨rfl,rfl⟩
 go_wp2_with fail
 refine (HC.out).mono ?_
 rintro e w2 ⟨rfl,n1,rfl⟩
 clear HP HC
 have HK2:=hid (HK0.out.call (below_drewN w1 n1))
 have hM2:(w1.drewN n1).cell? ⟨1,0,none⟩=some (.int .i64 mx):=HMB.out
 have HB2:=hid (chain HB0.out (below_drewN w1 n1))
 generalize w1.drewN n1=w2 at HK2 hM2 HB2 ⊢
 obtain ⟨sa,hsa⟩:=eX (⟨a.toArray⟩:ByteArray)
 obtain ⟨sb,hsb⟩:=eX (⟨b.toArray⟩:ByteArray)
 have hza:sa.size=a.length:=by rw [hsa];show a.toArray.size=_;simp
 have hzb:sb.size=b.length:=by rw [hsb];show b.toArray.size=_;simp
 have hda:sa.data.toList=a:=by rw [hsa]
 have hdb:sb.data.toList=b:=by rw [hsb]
 rw [←hsa,←hsb]
 have HDA:=hid hda;have HDB:=hid hdb
 have hzai:((sa.size:Nat):Int)≤2000:=by omega
 have hzbi:((sb.size:Nat):Int)≤2000:=by omega
 have hza2:sa.size≤2000:=by omega
 have hzb2:sb.size≤2000:=by omega
 clear hsa hsb hza hzb hda hdb HMB
 subst hf
 have HW1:=hid (isWhole_any (w:=w2) (s:=sa) (by omega))
 rw [HDA.out,h1] at HW1
 clear h1
 have hk:=HK2.out.held (Stay.refl _)
 obtain ⟨-,c0,c1',c2',f0,f1,f2,-⟩:=id hk
 have HD:=hk.done (q:=0) (b:=false) (A1:=none) (n1:=0) (c1:=0) (A2:=none) (n2:=0) (c2:=0) (zero_num _)
 obtain ⟨d1,d2,d3⟩:=HD
 obtain ⟨r0,r1,r2⟩:=cells3 d3
 have HD:=hid (And.intro d1 d2)
 clear d1 d2 d3
 go_wp2_with (first | (go_at_call_of 97 (Value.string sa);refine (HW1.out).mono ?_;rintro e w3 ⟨rfl,rfl⟩) | (go_at_call_of 97 (Value.string sb);refine (HW2.out).mono ?_;rintro e w3 ⟨rfl,rfl⟩))
 refine bodyPost_ret (v:=.tuple #[.agg #[.bool (false),.slice (none) (0) (0),.slice (none) (0) (0)],.int .i64 4]) ?_ rfl ⟨_,rfl,HD.out.1,below_to HB0.out (Nat.le_refl _) HD.out.2⟩
 simp [results,Tryz.results54,go_sem,r0,r1,r2]
theorem parse_slash_b {w:World} {s:ByteArray} {mx:Int} (hs:s.size≤2000) (hM:w.cell? ⟨1,0,none⟩=some (.int .i64 mx)) {t:List UInt8} {neg:Bool} (ht:t=Lib.trimPrefix s.data.toList [45]) (hneg:neg=Lib.hasPrefix s.data.toList [45])
   {a b:List UInt8} {fd:Bool} (hcut:Lib.cut t [47]=(a,b,fd)) (hf:fd=true) (h1:wholeB a=true) (h2:wholeB b=false) :
   Calls Tryz.prog 54 #[.string s] w (NumErrRet w (0) 4):=by
 have hsi:((s.size:Nat):Int)≤2000:=by omega
 have hlt:t.length≤2000:=by
   rw [ht]
   exact Nat.le_trans (trim_len _ _) (by rw [size_data];exact hs)
 have hlab:=cut_len t [47]
 rw [hcut] at hlab
 have hla:a.length≤2000:=Nat.le_trans hlab.1 hlt
 have hlb:b.length≤2000:=Nat.le_trans hlab.2 hlt
 obtain ⟨wB,hwB⟩:=eX (w.alloc (.cells #[.bool false,.slice none 0 0,.slice none 0 0] 31))
 have b0:Below w.heap.size w wB:=by rw [hwB];exact (Below.refl _ _).alloc (Nat.le_refl _) _
 have gB:wB.heap[w.heap.size]?=some (.cells #[.bool false,.slice none 0 0,.slice none 0 0] 31 (0,0)):=by rw [hwB];exact heap_alloc_new w _
 have HK0:=hid (Kept.start (T:=31) rfl (plain3 _ _ _ _ _ _ _) gB)
 have HB0:=hid b0
 have hMB:wB.cell? ⟨1,0,none⟩=some (.int .i64 mx):=(b0.cell (p:=⟨1,0,none⟩) (World.block_lt_of_cell? w _ hM)).trans hM
 have HMB:=hid hMB
 have HP:=hid (Tryz.strings_CutPrefix s ⟨#[45]⟩ wB)
 have e1:Lib.trimPrefix s.data.toList (⟨#[45]⟩:ByteArray).data.toList=t:=ht.symm
 have e2:Lib.hasPrefix s.data.toList (⟨#[45]⟩:ByteArray).data.toList=neg:=hneg.symm
 rw [e1,e2] at HP
 have HC:=hid (Tryz.strings_Cut ⟨t.toArray⟩ ⟨#[47]⟩ mx wB (by show t.toArray.size<_;rw [List.size_toArray];omega) hMB)
 have e3:Lib.cut (⟨t.toArray⟩:ByteArray).data.toList (⟨#[47]⟩:ByteArray).data.toList=(a,b,fd):=hcut
 rw [e3] at HC
 have HLT:=hid hlt
 clear e1 e2 e3 hcut ht hneg gB b0 hMB hM hlab hlt
 go_enter Tryz.func54,Tryz.ntmps54
 go_upto_region 3 with fail
 rw [←hwB]
 clear hwB
 go_wp2_with fail
 refine (HP.out).mono ?_
 rintro e w1 ⟨rfl,rfl⟩
 go_wp2_with fail
 refine (HC.out).mono ?_
 rintro e w2 ⟨rfl,n1,rfl⟩
 clear HP HC
 have HK2:=hid (HK0.out.call (below_drewN w1 n1))
 have hM2:(w1.drewN n1).cell? ⟨1,0,none⟩=some (.int .i64 mx):=HMB.out
 have HB2:=hid (chain HB0.out (below_drewN w1 n1))
 generalize w1.drewN n1=w2 at HK2 hM2 HB2 ⊢
 obtain ⟨sa,hsa⟩:=eX (⟨a.toArray⟩:ByteArray)
 obtain ⟨sb,hsb⟩:=eX (⟨b.toArray⟩:ByteArray)
 have hza:sa.size=a.length:=by rw [hsa];show a.toArray.size=_;simp
 have hzb:sb.size=b.length:=by rw [hsb];show b.toArray.size=_;simp
 have hda:sa.data.toList=a:=by rw [hsa]
 have hdb:sb.data.toList=b:=by rw [hsb]
 rw [←hsa,←hsb]
 have HDA:=hid hda;have HDB:=hid hdb
 have hzai:((sa.size:Nat):Int)≤2000:=by omega
 have hzbi:((sb.size:Nat):Int)≤2000:=by omega
 have hza2:sa.size≤2000:=by omega
 have hzb2:sb.size≤2000:=by omega
 clear hsa hsb hza hzb hda hdb HMB
 subst hf
 have HW1:=hid (isWhole_any (w:=w2) (s:=sa) (by omega))
 rw [HDA.out,h1] at HW1
 have HW2:=hid (isWhole_any (w:=w2) (s:=sb) (by omega))
 rw [HDB.out,h2] at HW2
 clear h1 h2
 have hk:=HK2.out.held (Stay.refl _)
 obtain ⟨-,c0,c1',c2',f0,f1,f2,-⟩:=id hk
 have HD:=hk.done (q:=0) (b:=false) (A1:=none) (n1:=0) (c1:=0) (A2:=none) (n2:=0) (c2:=0) (zero_num _)
 obtain ⟨d1,d2,d3⟩:=HD
 obtain ⟨r0,r1,r2⟩:=cells3 d3
 have HD:=hid (And.intro d1 d2)
 clear d1 d2 d3
 go_wp2_with (first | (go_at_call_of 97 (Value.string sa);refine (HW1.out).mono ?_;rintro e w3 ⟨rfl,rfl⟩) | (go_at_call_of 97 (Value.string sb);refine (HW2.out).mono ?_;rintro e w3 ⟨rfl,rfl⟩))
 refine bodyPost_ret (v:=.tuple #[.agg #[.bool (false),.slice (none) (0) (0),.slice (none) (0) (0)],.int .i64 4]) ?_ rfl ⟨_,rfl,HD.out.1,below_to HB0.out (Nat.le_refl _) HD.out.2⟩
 simp [results,Tryz.results54,go_sem,r0,r1,r2]
theorem parse_slash_c {w:World} {s:ByteArray} {mx:Int} (hs:s.size≤2000) (hM:w.cell? ⟨1,0,none⟩=some (.int .i64 mx)) {t:List UInt8} {neg:Bool} (ht:t=Lib.trimPrefix s.data.toList [45]) (hneg:neg=Lib.hasPrefix s.data.toList [45])
   {a b:List UInt8} {fd:Bool} (hcut:Lib.cut t [47]=(a,b,fd)) (hf:fd=true) (h1:wholeB a=true) (h2:wholeB b=true) (h3:b=[48]) :
   Calls Tryz.prog 54 #[.string s] w (NumErrRet w (0) 4):=by
 have hsi:((s.size:Nat):Int)≤2000:=by omega
 have hlt:t.length≤2000:=by
   rw [ht]
   exact Nat.le_trans (trim_len _ _) (by rw [size_data];exact hs)
 have hlab:=cut_len t [47]
 rw [hcut] at hlab
 have hla:a.length≤2000:=Nat.le_trans hlab.1 hlt
 have hlb:b.length≤2000:=Nat.le_trans hlab.2 hlt
 obtain ⟨wB,hwB⟩:=eX (w.alloc (.cells #[.bool false,.slice none 0 0,.slice none 0 0] 31))
 have b0:Below w.heap.size w wB:=by rw [hwB];exact (Below.refl _ _).alloc (Nat.le_refl _) _
 have gB:wB.heap[w.heap.size]?=some (.cells #[.bool false,.slice none 0 0,.slice none 0 0] 31 (0,0)):=by rw [hwB];exact heap_alloc_new w _
 have HK0:=hid (Kept.start (T:=31) rfl (plain3 _ _ _ _ _ _ _) gB)
 have HB0:=hid b0
 have hMB:wB.cell? ⟨1,0,none⟩=some (.int .i64 mx):=(b0.cell (p:=⟨1,0,none⟩) (World.block_lt_of_cell? w _ hM)).trans hM
 have HMB:=hid hMB
 have HP:=hid (Tryz.strings_CutPrefix s ⟨#[45]⟩ wB)
 have e1:Lib.trimPrefix s.data.toList (⟨#[45]⟩:ByteArray).data.toList=t:=ht.symm
 have e2:Lib.hasPrefix s.data.toList (⟨#[45]⟩:ByteArray).data.toList=neg:=hneg.symm
 rw [e1,e2] at HP
 have HC:=hid (Tryz.strings_Cut ⟨t.toArray⟩ ⟨#[47]⟩ mx wB (by show t.toArray.size<_;rw [List.size_toArray];omega) hMB)
 have e3:Lib.cut (⟨t.toArray⟩:ByteArray).data.toList (⟨#[47]⟩:ByteArray).data.toList=(a,b,fd):=hcut
 rw [e3] at HC
 have HLT:=hid hlt
 clear e1 e2 e3 hcut ht hneg gB b0 hMB hM hlab hlt
 go_enter Tryz.func54,Tryz.ntmps54
 go_upto_region 3 with fail
 rw [←hwB]
 clear hwB
 go_wp2_with fail
 refine (HP.out).mono ?_
 rintro e w1 ⟨rfl,rfl⟩
 go_wp2_with fail
 refine (HC.out).mono ?_
 rintro e w2 ⟨rfl,n1,rfl⟩
 clear HP HC
 have HK2:=hid (HK0.out.call (below_drewN w1 n1))
 have hM2:(w1.drewN n1).cell? ⟨1,0,none⟩=some (.int .i64 mx):=HMB.out
 have HB2:=hid (chain HB0.out (below_drewN w1 n1))
 generalize w1.drewN n1=w2 at HK2 hM2 HB2 ⊢
 obtain ⟨sa,hsa⟩:=eX (⟨a.toArray⟩:ByteArray)
 obtain ⟨sb,hsb⟩:=eX (⟨b.toArray⟩:ByteArray)
 have hza:sa.size=a.length:=by rw [hsa];show a.toArray.size=_;simp
 have hzb:sb.size=b.length:=by rw [hsb];show b.toArray.size=_;simp
 have hda:sa.data.toList=a:=by rw [hsa]
 have hdb:sb.data.toList=b:=by rw [hsb]
 rw [←hsa,←hsb]
 have HDA:=hid hda;have HDB:=hid hdb
 have hzai:((sa.size:Nat):Int)≤2000:=by omega
 have hzbi:((sb.size:Nat):Int)≤2000:=by omega
 have hza2:sa.size≤2000:=by omega
 have hzb2:sb.size≤2000:=by omega
 clear hsa hsb hza hzb hda hdb HMB
 subst hf
 have HW1:=hid (isWhole_any (w:=w2) (s:=sa) (by omega))
 rw [HDA.out,h1] at HW1
 have HW2:=hid (isWhole_any (w:=w2) (s:=sb) (by omega))
 rw [HDB.out,h2] at HW2
 have hz:(sb.toList==[48])=true:=by rw [ByteArray.toList_eq,HDB.out,h3];rfl
 clear h1 h2 h3
 have hk:=HK2.out.held (Stay.refl _)
 obtain ⟨-,c0,c1',c2',f0,f1,f2,-⟩:=id hk
 have HD:=hk.done (q:=0) (b:=false) (A1:=none) (n1:=0) (c1:=0) (A2:=none) (n2:=0) (c2:=0) (zero_num _)
 obtain ⟨d1,d2,d3⟩:=HD
 obtain ⟨r0,r1,r2⟩:=cells3 d3
 have HD:=hid (And.intro d1 d2)
 clear d1 d2 d3
 go_wp2_with (first | (go_at_call_of 97 (Value.string sa);refine (HW1.out).mono ?_;rintro e w3 ⟨rfl,rfl⟩) | (go_at_call_of 97 (Value.string sb);refine (HW2.out).mono ?_;rintro e w3 ⟨rfl,rfl⟩))
 refine bodyPost_ret (v:=.tuple #[.agg #[.bool (false),.slice (none) (0) (0),.slice (none) (0) (0)],.int .i64 4]) ?_ rfl ⟨_,rfl,HD.out.1,below_to HB0.out (Nat.le_refl _) HD.out.2⟩
 simp [results,Tryz.results54,go_sem,r0,r1,r2]
theorem parse_slash_d {w:World} {s:ByteArray} {mx:Int} (hs:s.size≤2000) (hM:w.cell? ⟨1,0,none⟩=some (.int .i64 mx)) {t:List UInt8} {neg:Bool} (ht:t=Lib.trimPrefix s.data.toList [45]) (hneg:neg=Lib.hasPrefix s.data.toList [45])
   {a b:List UInt8} {fd:Bool} (hcut:Lib.cut t [47]=(a,b,fd)) (hf:fd=true) (h1:wholeB a=true) (h2:wholeB b=true) (h3:b≠[48]) {q:Rat} (hq:q=mkRat (sgn neg (valL a)) (valL b)) :
   Calls Tryz.prog 54 #[.string s] w (NumErrRet w (q) 0):=by
 have hsi:((s.size:Nat):Int)≤2000:=by omega
 have hlt:t.length≤2000:=by
   rw [ht]
   exact Nat.le_trans (trim_len _ _) (by rw [size_data];exact hs)
 have hlab:=cut_len t [47]
 rw [hcut] at hlab
 have hla:a.length≤2000:=Nat.le_trans hlab.1 hlt
 have hlb:b.length≤2000:=Nat.le_trans hlab.2 hlt
 obtain ⟨wB,hwB⟩:=eX (w.alloc (.cells #[.bool false,.slice none 0 0,.slice none 0 0] 31))
 have b0:Below w.heap.size w wB:=by rw [hwB];exact (Below.refl _ _).alloc (Nat.le_refl _) _
 have gB:wB.heap[w.heap.size]?=some (.cells #[.bool false,.slice none 0 0,.slice none 0 0] 31 (0,0)):=by rw [hwB];exact heap_alloc_new w _
 have HK0:=hid (Kept.start (T:=31) rfl (plain3 _ _ _ _ _ _ _) gB)
 have HB0:=hid b0
 have hMB:wB.cell? ⟨1,0,none⟩=some (.int .i64 mx):=(b0.cell (p:=⟨1,0,none⟩) (World.block_lt_of_cell? w _ hM)).trans hM
 have HMB:=hid hMB
 have HP:=hid (Tryz.strings_CutPrefix s ⟨#[45]⟩ wB)
 have e1:Lib.trimPrefix s.data.toList (⟨#[45]⟩:ByteArray).data.toList=t:=ht.symm
 have e2:Lib.hasPrefix s.data.toList (⟨#[45]⟩:ByteArray).data.toList=neg:=hneg.symm
 rw [e1,e2] at HP
 have HC:=hid (Tryz.strings_Cut ⟨t.toArray⟩ ⟨#[47]⟩ mx wB (by show t.toArray.size<_;rw [List.size_toArray];omega) hMB)
 have e3:Lib.cut (⟨t.toArray⟩:ByteArray).data.toList (⟨#[47]⟩:ByteArray).data.toList=(a,b,fd):=hcut
 rw [e3] at HC
 have HLT:=hid hlt
 clear e1 e2 e3 hcut ht hneg gB b0 hMB hM hlab hlt
 go_enter Tryz.func54,Tryz.ntmps54
 go_upto_region 3 with fail
 rw [←hwB]
 clear hwB
 go_wp2_with fail
 refine (HP.out).mono ?_
 rintro e w1 ⟨rfl,rfl⟩
 go_wp2_with fail
 refine (HC.out).mono ?_
 rintro e w2 ⟨rfl,n1,rfl⟩
 clear HP HC
 have HK2:=hid (HK0.out.call (below_drewN w1 n1))
 have hM2:(w1.drewN n1).cell? ⟨1,0,none⟩=some (.int .i64 mx):=HMB.out
 have HB2:=hid (chain HB0.out (below_drewN w1 n1))
 generalize w1.drewN n1=w2 at HK2 hM2 HB2 ⊢
 obtain ⟨sa,hsa⟩:=eX (⟨a.toArray⟩:ByteArray)
 obtain ⟨sb,hsb⟩:=eX (⟨b.toArray⟩:ByteArray)
 have hza:sa.size=a.length:=by rw [hsa];show a.toArray.size=_;simp
 have hzb:sb.size=b.length:=by rw [hsb];show b.toArray.size=_;simp
 have hda:sa.data.toList=a:=by rw [hsa]
 have hdb:sb.data.toList=b:=by rw [hsb]
 rw [←hsa,←hsb]
 have HDA:=hid hda;have HDB:=hid hdb
 have hzai:((sa.size:Nat):Int)≤2000:=by omega
 have hzbi:((sb.size:Nat):Int)≤2000:=by omega
 have hza2:sa.size≤2000:=by omega
 have hzb2:sb.size≤2000:=by omega
 clear hsa hsb hza hzb hda hdb HMB
 subst hf
 have HQ:=hid hq
 clear hq
 have HW1:=hid (isWhole_any (w:=w2) (s:=sa) (by omega))
 rw [HDA.out,h1] at HW1
 have HW2:=hid (isWhole_any (w:=w2) (s:=sb) (by omega))
 rw [HDB.out,h2] at HW2
 have hz:(sb.toList==[48])=false:=by rw [ByteArray.toList_eq,HDB.out,beq_eq_false_iff_ne];exact h3
 have hda:=dig_all (whole_dig h1)
 have hdb:=dig_all (whole_dig h2)
 have HPOS:=hid (whole_pos h2 h3)
 have hla2:=len_valL hda
 have hlb2:=len_valL hdb
 have HL:=hid (And.intro (show len (valL a)≤2001 by omega) (show len (valL b)≤2001 by omega))
 have HN1:=hid (natOfDigits_any (w:=w2) (s0:=sa) (by omega) (by rw [HDA.out];exact hda))
 have HN2:=fun w'=>hid (natOfDigits_any (w:=w') (s0:=sb) (by omega) (by rw [HDB.out];exact hdb))
 rw [HDA.out] at HN1
 rw [HDB.out] at HN2
 clear h1 h2 h3 hda hdb hla2 hlb2
 go_upto_region 8 with (first | (go_at_call_of 97 (Value.string sa);refine (HW1.out).mono ?_;rintro e w3 ⟨rfl,rfl⟩) | (go_at_call_of 97 (Value.string sb);refine (HW2.out).mono ?_;rintro e w3 ⟨rfl,rfl⟩))
 go_wp2_with fail
 refine (HN1.out).mono ?_
 rintro e w4 ⟨v4,rfl,hv4,b4⟩
 have HN3:=HN2 w4
 have HK4:=hid (HK2.out.call b4)
 clear b4 HN1 HN2
 go_wp2_with fail
 refine (HN3.out).mono ?_
 rintro e w5 ⟨v5,rfl,hv5,b5⟩
 have hv4':=hv4.keep b5
 have HK5:=hid (HK4.out.call b5)
 have HRD:=hid (reduced_any (neg:=neg) hv4' hv5 HPOS.out (Nat.le_trans HL.out.1 (by decide)) (Nat.le_trans HL.out.2 (by decide)))
 rw [ratOf_sgn] at HRD
 clear b5 HN3 hv4 hv4' hv5
 rw [←HQ.out] at HRD
 clear HQ
 go_wp2_with fail
 refine (HRD.out).mono ?_
 rintro e w6 ⟨v6,rfl,hv6,b6⟩
 obtain ⟨C1,j1,C2,j2,rfl,-,-⟩:=hv6.opened
 have hk:=(HK5.out.call b6).held (Stay.refl _)
 clear b6 HRD
 obtain ⟨-,c0,c1',c2',f0,f1,f2,-⟩:=id hk
 have HD:=hk.done (q:=q) (b:=decide (q.num<0)) (A1:=C1) (n1:=len q.num.natAbs) (c1:=j1) (A2:=C2) (n2:=len (below q.den)) (c2:=j2) (hv6)
 obtain ⟨d1,d2,d3⟩:=HD
 obtain ⟨r0,r1,r2⟩:=cells3 d3
 have HD:=hid (And.intro d1 d2)
 clear d1 d2 d3
 go_wp2_with fail
 refine bodyPost_ret (v:=.tuple #[.agg #[.bool (decide (q.num<0)),.slice (C1) (len q.num.natAbs) (j1),.slice (C2) (len (below q.den)) (j2)],.int .i64 0]) ?_ rfl ⟨_,rfl,HD.out.1,below_to HB0.out (Nat.le_refl _) HD.out.2⟩
 simp [results,Tryz.results54,go_sem,r0,r1,r2]
theorem parse_point_a {w:World} {s:ByteArray} {mx:Int} (hs:s.size≤2000) (hM:w.cell? ⟨1,0,none⟩=some (.int .i64 mx)) {t:List UInt8} {neg:Bool} (ht:t=Lib.trimPrefix s.data.toList [45]) (hneg:neg=Lib.hasPrefix s.data.toList [45])
   {x0 y0:List UInt8} (hcut0:Lib.cut t [47]=(x0,y0,false)) {a b:List UInt8} {fd:Bool} (hcut:Lib.cut t [46]=(a,b,fd)) (h1:wholeB a=false) :
   Calls Tryz.prog 54 #[.string s] w (NumErrRet w (0) 4):=by
 have hsi:((s.size:Nat):Int)≤2000:=by omega
 have hlt:t.length≤2000:=by
   rw [ht]
   exact Nat.le_trans (trim_len _ _) (by rw [size_data];exact hs)
 have hlab:=cut_len t [46]
 rw [hcut] at hlab
 have hla:a.length≤2000:=Nat.le_trans hlab.1 hlt
 have hlb:b.length≤2000:=Nat.le_trans hlab.2 hlt
 obtain ⟨wB,hwB⟩:=eX (w.alloc (.cells #[.bool false,.slice none 0 0,.slice none 0 0] 31))
 have b0:Below w.heap.size w wB:=by rw [hwB];exact (Below.refl _ _).alloc (Nat.le_refl _) _
 have gB:wB.heap[w.heap.size]?=some (.cells #[.bool false,.slice none 0 0,.slice none 0 0] 31 (0,0)):=by rw [hwB];exact heap_alloc_new w _
 have HK0:=hid (Kept.start (T:=31) rfl (plain3 _ _ _ _ _ _ _) gB)
 have HB0:=hid b0
 have hMB:wB.cell? ⟨1,0,none⟩=some (.int .i64 mx):=(b0.cell (p:=⟨1,0,none⟩) (World.block_lt_of_cell? w _ hM)).trans hM
 have HMB:=hid hMB
 have HP:=hid (Tryz.strings_CutPrefix s ⟨#[45]⟩ wB)
 have e1:Lib.trimPrefix s.data.toList (⟨#[45]⟩:ByteArray).data.toList=t:=ht.symm
 have e2:Lib.hasPrefix s.data.toList (⟨#[45]⟩:ByteArray).data.toList=neg:=hneg.symm
 rw [e1,e2] at HP
 have HC:=hid (Tryz.strings_Cut ⟨t.toArray⟩ ⟨#[47]⟩ mx wB (by show t.toArray.size<_;rw [List.size_toArray];omega) hMB)
 have e3:Lib.cut (⟨t.toArray⟩:ByteArray).data.toList (⟨#[47]⟩:ByteArray).data.toList=(x0,y0,false):=hcut0
 rw [e3] at HC
 have HC2:=fun k=>hid (Tryz.strings_Cut ⟨t.toArray⟩ ⟨#[46]⟩ mx (wB.drewN k) (by show t.toArray.size<_;rw [List.size_toArray];omega) hMB)
 have e4:Lib.cut (⟨t.toArray⟩:ByteArray).data.toList (⟨#[46]⟩:ByteArray).data.toList=(a,b,fd):=hcut
 rw [e4] at HC2
 have HLT:=hid hlt
 clear e1 e2 e3 e4 hcut hcut0 ht hneg gB b0 hMB hM hlab hlt
 go_enter Tryz.func54,Tryz.ntmps54
 go_upto_region 3 with fail
 rw [←hwB]
 clear hwB
 go_wp2_with fail
 refine (HP.out).mono ?_
 rintro e w1 ⟨rfl,rfl⟩
 go_wp2_with fail
 refine (HC.out).mono ?_
 rintro e w2 ⟨rfl,n0,rfl⟩
 have HC3:=HC2 n0
 go_wp2_with fail
 refine (HC3.out).mono ?_
 rintro e w2 ⟨rfl,n1,rfl⟩
 clear HP HC HC2 HC3
 have hkk:=HK0.out.call (below_drewN w1 n0)
 have HMB:=hid (show (w1.drewN n0).cell? ⟨1,0,none⟩=some (.int .i64 mx) from HMB.out)
 generalize w1.drewN n0=wc at hkk HMB ⊢
 have HK2:=hid (hkk.call (below_drewN wc n1))
 clear hkk
 have hM2:(wc.drewN n1).cell? ⟨1,0,none⟩=some (.int .i64 mx):=HMB.out
 have HB2:=hid True.intro
 generalize wc.drewN n1=w2 at HK2 hM2 ⊢
 obtain ⟨sa,hsa⟩:=eX (⟨a.toArray⟩:ByteArray)
 obtain ⟨sb,hsb⟩:=eX (⟨b.toArray⟩:ByteArray)
 have hza:sa.size=a.length:=by rw [hsa];show a.toArray.size=_;simp
 have hzb:sb.size=b.length:=by rw [hsb];show b.toArray.size=_;simp
 have hda:sa.data.toList=a:=by rw [hsa]
 have hdb:sb.data.toList=b:=by rw [hsb]
 rw [←hsa,←hsb]
 have HDA:=hid hda;have HDB:=hid hdb
 have hzai:((sa.size:Nat):Int)≤2000:=by omega
 have hzbi:((sb.size:Nat):Int)≤2000:=by omega
 have hza2:sa.size≤2000:=by omega
 have hzb2:sb.size≤2000:=by omega
 clear hsa hsb hza hzb hda hdb HMB
 have HW1:=hid (isWhole_any (w:=w2) (s:=sa) (by omega))
 rw [HDA.out,h1] at HW1
 clear h1
 have hk:=HK2.out.held (Stay.refl _)
 obtain ⟨-,c0,c1',c2',f0,f1,f2,-⟩:=id hk
 have HD:=hk.done (q:=0) (b:=false) (A1:=none) (n1:=0) (c1:=0) (A2:=none) (n2:=0) (c2:=0) (zero_num _)
 obtain ⟨d1,d2,d3⟩:=HD
 obtain ⟨r0,r1,r2⟩:=cells3 d3
 have HD:=hid (And.intro d1 d2)
 clear d1 d2 d3
 go_wp2_with (first | (go_at_call_of 97 (Value.string sa);refine (HW1.out).mono ?_;rintro e w3 ⟨rfl,rfl⟩) | (go_at_call_of 100 (Value.string sb);refine (HW2.out).mono ?_;rintro e w3 ⟨rfl,rfl⟩))
 refine bodyPost_ret (v:=.tuple #[.agg #[.bool (false),.slice (none) (0) (0),.slice (none) (0) (0)],.int .i64 4]) ?_ rfl ⟨_,rfl,HD.out.1,below_to HB0.out (Nat.le_refl _) HD.out.2⟩
 simp [results,Tryz.results54,go_sem,r0,r1,r2]
theorem parse_point_b {w:World} {s:ByteArray} {mx:Int} (hs:s.size≤2000) (hM:w.cell? ⟨1,0,none⟩=some (.int .i64 mx)) {t:List UInt8} {neg:Bool} (ht:t=Lib.trimPrefix s.data.toList [45]) (hneg:neg=Lib.hasPrefix s.data.toList [45])
   {x0 y0:List UInt8} (hcut0:Lib.cut t [47]=(x0,y0,false)) {a b:List UInt8} {fd:Bool} (hcut:Lib.cut t [46]=(a,b,fd)) (hf:fd=true) (h1:wholeB a=true) (h2:digB b=false) :
   Calls Tryz.prog 54 #[.string s] w (NumErrRet w (0) 4):=by
 have hsi:((s.size:Nat):Int)≤2000:=by omega
 have hlt:t.length≤2000:=by
   rw [ht]
   exact Nat.le_trans (trim_len _ _) (by rw [size_data];exact hs)
 have hlab:=cut_len t [46]
 rw [hcut] at hlab
 have hla:a.length≤2000:=Nat.le_trans hlab.1 hlt
 have hlb:b.length≤2000:=Nat.le_trans hlab.2 hlt
 obtain ⟨wB,hwB⟩:=eX (w.alloc (.cells #[.bool false,.slice none 0 0,.slice none 0 0] 31))
 have b0:Below w.heap.size w wB:=by rw [hwB];exact (Below.refl _ _).alloc (Nat.le_refl _) _
 have gB:wB.heap[w.heap.size]?=some (.cells #[.bool false,.slice none 0 0,.slice none 0 0] 31 (0,0)):=by rw [hwB];exact heap_alloc_new w _
 have HK0:=hid (Kept.start (T:=31) rfl (plain3 _ _ _ _ _ _ _) gB)
 have HB0:=hid b0
 have hMB:wB.cell? ⟨1,0,none⟩=some (.int .i64 mx):=(b0.cell (p:=⟨1,0,none⟩) (World.block_lt_of_cell? w _ hM)).trans hM
 have HMB:=hid hMB
 have HP:=hid (Tryz.strings_CutPrefix s ⟨#[45]⟩ wB)
 have e1:Lib.trimPrefix s.data.toList (⟨#[45]⟩:ByteArray).data.toList=t:=ht.symm
 have e2:Lib.hasPrefix s.data.toList (⟨#[45]⟩:ByteArray).data.toList=neg:=hneg.symm
 rw [e1,e2] at HP
 have HC:=hid (Tryz.strings_Cut ⟨t.toArray⟩ ⟨#[47]⟩ mx wB (by show t.toArray.size<_;rw [List.size_toArray];omega) hMB)
 have e3:Lib.cut (⟨t.toArray⟩:ByteArray).data.toList (⟨#[47]⟩:ByteArray).data.toList=(x0,y0,false):=hcut0
 rw [e3] at HC
 have HC2:=fun k=>hid (Tryz.strings_Cut ⟨t.toArray⟩ ⟨#[46]⟩ mx (wB.drewN k) (by show t.toArray.size<_;rw [List.size_toArray];omega) hMB)
 have e4:Lib.cut (⟨t.toArray⟩:ByteArray).data.toList (⟨#[46]⟩:ByteArray).data.toList=(a,b,fd):=hcut
 rw [e4] at HC2
 have HLT:=hid hlt
 clear e1 e2 e3 e4 hcut hcut0 ht hneg gB b0 hMB hM hlab hlt
 go_enter Tryz.func54,Tryz.ntmps54
 go_upto_region 3 with fail
 rw [←hwB]
 clear hwB
 go_wp2_with fail
 refine (HP.out).mono ?_
 rintro e w1 ⟨rfl,rfl⟩
 go_wp2_with fail
 refine (HC.out).mono ?_
 rintro e w2 ⟨rfl,n0,rfl⟩
 have HC3:=HC2 n0
 go_wp2_with fail
 refine (HC3.out).mono ?_
 rintro e w2 ⟨rfl,n1,rfl⟩
 clear HP HC HC2 HC3
 have hkk:=HK0.out.call (below_drewN w1 n0)
 have HMB:=hid (show (w1.drewN n0).cell? ⟨1,0,none⟩=some (.int .i64 mx) from HMB.out)
 generalize w1.drewN n0=wc at hkk HMB ⊢
 have HK2:=hid (hkk.call (below_drewN wc n1))
 clear hkk
 have hM2:(wc.drewN n1).cell? ⟨1,0,none⟩=some (.int .i64 mx):=HMB.out
 have HB2:=hid True.intro
 generalize wc.drewN n1=w2 at HK2 hM2 ⊢
 obtain ⟨sa,hsa⟩:=eX (⟨a.toArray⟩:ByteArray)
 obtain ⟨sb,hsb⟩:=eX (⟨b.toArray⟩:ByteArray)
 have hza:sa.size=a.length:=by rw [hsa];show a.toArray.size=_;simp
 have hzb:sb.size=b.length:=by rw [hsb];show b.toArray.size=_;simp
 have hda:sa.data.toList=a:=by rw [hsa]
 have hdb:sb.data.toList=b:=by rw [hsb]
 rw [←hsa,←hsb]
 have HDA:=hid hda;have HDB:=hid hdb
 have hzai:((sa.size:Nat):Int)≤2000:=by omega
 have hzbi:((sb.size:Nat):Int)≤2000:=by omega
 have hza2:sa.size≤2000:=by omega
 have hzb2:sb.size≤2000:=by omega
 clear hsa hsb hza hzb hda hdb HMB
 subst hf
 have HW1:=hid (isWhole_any (w:=w2) (s:=sa) (by omega))
 rw [HDA.out,h1] at HW1
 have HW2:=hid (isDigits_any (w:=w2) (s:=sb) (by omega))
 rw [HDB.out,h2] at HW2
 clear h1 h2
 have hk:=HK2.out.held (Stay.refl _)
 obtain ⟨-,c0,c1',c2',f0,f1,f2,-⟩:=id hk
 have HD:=hk.done (q:=0) (b:=false) (A1:=none) (n1:=0) (c1:=0) (A2:=none) (n2:=0) (c2:=0) (zero_num _)
 obtain ⟨d1,d2,d3⟩:=HD
 obtain ⟨r0,r1,r2⟩:=cells3 d3
 have HD:=hid (And.intro d1 d2)
 clear d1 d2 d3
 go_wp2_with (first | (go_at_call_of 97 (Value.string sa);refine (HW1.out).mono ?_;rintro e w3 ⟨rfl,rfl⟩) | (go_at_call_of 100 (Value.string sb);refine (HW2.out).mono ?_;rintro e w3 ⟨rfl,rfl⟩))
 refine bodyPost_ret (v:=.tuple #[.agg #[.bool (false),.slice (none) (0) (0),.slice (none) (0) (0)],.int .i64 4]) ?_ rfl ⟨_,rfl,HD.out.1,below_to HB0.out (Nat.le_refl _) HD.out.2⟩
 simp [results,Tryz.results54,go_sem,r0,r1,r2]
theorem parse_point_d {w:World} {s:ByteArray} {mx:Int} (hs:s.size≤2000) (hM:w.cell? ⟨1,0,none⟩=some (.int .i64 mx)) {t:List UInt8} {neg:Bool} (ht:t=Lib.trimPrefix s.data.toList [45]) (hneg:neg=Lib.hasPrefix s.data.toList [45])
   {x0 y0:List UInt8} (hcut0:Lib.cut t [47]=(x0,y0,false)) {a b:List UInt8} {fd:Bool} (hcut:Lib.cut t [46]=(a,b,fd)) (hf:fd=false) (h1:wholeB a=true) (h3:b.all digC=true) {q:Rat} (hq:q=mkRat (sgn neg (valL (a++b))) (10^b.length)) :
   Calls Tryz.prog 54 #[.string s] w (NumErrRet w (q) 0):=by
 have hsi:((s.size:Nat):Int)≤2000:=by omega
 have hlt:t.length≤2000:=by
   rw [ht]
   exact Nat.le_trans (trim_len _ _) (by rw [size_data];exact hs)
 have hlab:=cut_len t [46]
 rw [hcut] at hlab
 have hla:a.length≤2000:=Nat.le_trans hlab.1 hlt
 have hlb:b.length≤2000:=Nat.le_trans hlab.2 hlt
 obtain ⟨wB,hwB⟩:=eX (w.alloc (.cells #[.bool false,.slice none 0 0,.slice none 0 0] 31))
 have b0:Below w.heap.size w wB:=by rw [hwB];exact (Below.refl _ _).alloc (Nat.le_refl _) _
 have gB:wB.heap[w.heap.size]?=some (.cells #[.bool false,.slice none 0 0,.slice none 0 0] 31 (0,0)):=by rw [hwB];exact heap_alloc_new w _
 have HK0:=hid (Kept.start (T:=31) rfl (plain3 _ _ _ _ _ _ _) gB)
 have HB0:=hid b0
 have hMB:wB.cell? ⟨1,0,none⟩=some (.int .i64 mx):=(b0.cell (p:=⟨1,0,none⟩) (World.block_lt_of_cell? w _ hM)).trans hM
 have HMB:=hid hMB
 have HP:=hid (Tryz.strings_CutPrefix s ⟨#[45]⟩ wB)
 have e1:Lib.trimPrefix s.data.toList (⟨#[45]⟩:ByteArray).data.toList=t:=ht.symm
 have e2:Lib.hasPrefix s.data.toList (⟨#[45]⟩:ByteArray).data.toList=neg:=hneg.symm
 rw [e1,e2] at HP
 have HC:=hid (Tryz.strings_Cut ⟨t.toArray⟩ ⟨#[47]⟩ mx wB (by show t.toArray.size<_;rw [List.size_toArray];omega) hMB)
 have e3:Lib.cut (⟨t.toArray⟩:ByteArray).data.toList (⟨#[47]⟩:ByteArray).data.toList=(x0,y0,false):=hcut0
 rw [e3] at HC
 have HC2:=fun k=>hid (Tryz.strings_Cut ⟨t.toArray⟩ ⟨#[46]⟩ mx (wB.drewN k) (by show t.toArray.size<_;rw [List.size_toArray];omega) hMB)
 have e4:Lib.cut (⟨t.toArray⟩:ByteArray).data.toList (⟨#[46]⟩:ByteArray).data.toList=(a,b,fd):=hcut
 rw [e4] at HC2
 have HLT:=hid hlt
 clear e1 e2 e3 e4 hcut hcut0 ht hneg gB b0 hMB hM hlab hlt
 go_enter Tryz.func54,Tryz.ntmps54
 go_upto_region 3 with fail
 rw [←hwB]
 clear hwB
 go_wp2_with fail
 refine (HP.out).mono ?_
 rintro e w1 ⟨rfl,rfl⟩
 go_wp2_with fail
 refine (HC.out).mono ?_
 rintro e w2 ⟨rfl,n0,rfl⟩
 have HC3:=HC2 n0
 go_wp2_with fail
 refine (HC3.out).mono ?_
 rintro e w2 ⟨rfl,n1,rfl⟩
 clear HP HC HC2 HC3
 have hkk:=HK0.out.call (below_drewN w1 n0)
 have HMB:=hid (show (w1.drewN n0).cell? ⟨1,0,none⟩=some (.int .i64 mx) from HMB.out)
 generalize w1.drewN n0=wc at hkk HMB ⊢
 have HK2:=hid (hkk.call (below_drewN wc n1))
 clear hkk
 have hM2:(wc.drewN n1).cell? ⟨1,0,none⟩=some (.int .i64 mx):=HMB.out
 have HB2:=hid True.intro
 generalize wc.drewN n1=w2 at HK2 hM2 ⊢
 obtain ⟨sa,hsa⟩:=eX (⟨a.toArray⟩:ByteArray)
 obtain ⟨sb,hsb⟩:=eX (⟨b.toArray⟩:ByteArray)
 have hza:sa.size=a.length:=by rw [hsa];show a.toArray.size=_;simp
 have hzb:sb.size=b.length:=by rw [hsb];show b.toArray.size=_;simp
 have hda:sa.data.toList=a:=by rw [hsa]
 have hdb:sb.data.toList=b:=by rw [hsb]
 rw [←hsa,←hsb]
 have HDA:=hid hda;have HDB:=hid hdb
 have hzai:((sa.size:Nat):Int)≤2000:=by omega
 have hzbi:((sb.size:Nat):Int)≤2000:=by omega
 have hza2:sa.size≤2000:=by omega
 have hzb2:sb.size≤2000:=by omega
 have hzb0:=hzb
 clear hsa hsb hza hzb hda hdb HMB
 subst hf
 have HW1:=hid (isWhole_any (w:=w2) (s:=sa) (by omega))
 rw [HDA.out,h1] at HW1
 have hda:=dig_all (whole_dig h1)
 have hab:(a++b).all digC=true:=by rw [List.all_append,Bool.and_eq_true];exact ⟨hda,h3⟩
 have HLB:=hid hlb
 have hla2:=len_valL hab
 have HL:=hid (show len (valL (a++b))≤4001 by rw [List.length_append] at hla2;omega)
 have HN1:Hid (∀ s0:ByteArray,s0.data.toList=a++b→Calls Tryz.prog 99 #[.string s0] w2 (NatRet w2 (valL (a++b)))):=by
   intro s0 e
   have:=natOfDigits_any (w:=w2) (s0:=s0) (by rw [←size_data,e,List.length_append];omega) (by rw [e];exact hab)
   rw [e] at this
   exact this
 have HQ:=hid hq
 have HB:=hid hzb0
 clear hq h1 h3 hda hab hla2 hzb0
 go_wp2_with (first | (go_at_call_of 97 (Value.string sa);refine (HW1.out).mono ?_;rintro e w3 ⟨rfl,rfl⟩) | (go_at_call_of 100 (Value.string sb);refine (HW2.out).mono ?_;rintro e w3 ⟨rfl,rfl⟩))
 go_wp2_with fail
 refine (HN1.out _ ?cat).mono ?_
 case cat =>
   show (sa++sb).data.toList=a++b
   rw [ByteArray.data_append,Array.toList_append,HDA.out,HDB.out]
 rintro e w4 ⟨v4,rfl,hv4,b4⟩
 have hten:Nt (w4.alloc (.cells #[.int .u64 10] 97)) (.slice (some ⟨w4.heap.size,0,none⟩) 1 1) 10:=word_nat w4 (x:=10) (by decide) (by rw [W_eq];decide)
 have hl10:len 10=1:=by decide +kernel
 have HP2:=hid (pow_any (n:=sb.size) hten (by omega) (by rw [hl10];omega) (by rw [hl10];decide))
 have bA:Below w4.heap.size w4 (w4.alloc (.cells #[.int .u64 10] 97)):=(Below.refl _ _).alloc (Nat.le_refl _) _
 have hvA:=hv4.keep bA
 have HKA:=hid ((HK2.out.call b4).call bA)
 have hpb:len (10^sb.size)≤4001:=by
   have:=len_pow_le 10 sb.size
   rw [hl10] at this
   omega
 clear b4 HN1 hten hl10 bA hv4
 go_wp2_with fail
 refine (HP2.out).mono ?_
 rintro e w5 ⟨v5,rfl,hv5,b5⟩
 have hv4':=hvA.keep b5
 have HK5:=hid (HKA.out.call b5)
 have HRD:=hid (reduced_any (neg:=neg) hv4' hv5 (Nat.pow_pos (by decide)) (Nat.le_trans HL.out (by decide)) (Nat.le_trans hpb (by decide)))
 rw [ratOf_sgn,HB.out,←HQ.out] at HRD
 clear b5 HP2 hv4' hv5 hvA HKA hpb HQ
 go_wp2_with fail
 refine (HRD.out).mono ?_
 rintro e w6 ⟨v6,rfl,hv6,b6⟩
 obtain ⟨C1,j1,C2,j2,rfl,-,-⟩:=hv6.opened
 have hk:=(HK5.out.call b6).held (Stay.refl _)
 clear b6 HRD
 obtain ⟨-,c0,c1',c2',f0,f1,f2,-⟩:=id hk
 have HD:=hk.done (q:=q) (b:=decide (q.num<0)) (A1:=C1) (n1:=len q.num.natAbs) (c1:=j1) (A2:=C2) (n2:=len (below q.den)) (c2:=j2) (hv6)
 obtain ⟨d1,d2,d3⟩:=HD
 obtain ⟨r0,r1,r2⟩:=cells3 d3
 have HD:=hid (And.intro d1 d2)
 clear d1 d2 d3
 go_wp2_with fail
 refine bodyPost_ret (v:=.tuple #[.agg #[.bool (decide (q.num<0)),.slice (C1) (len q.num.natAbs) (j1),.slice (C2) (len (below q.den)) (j2)],.int .i64 0]) ?_ rfl ⟨_,rfl,HD.out.1,below_to HB0.out (Nat.le_refl _) HD.out.2⟩
 simp [results,Tryz.results54,go_sem,r0,r1,r2]
theorem parse_point_c {w:World} {s:ByteArray} {mx:Int} (hs:s.size≤2000) (hM:w.cell? ⟨1,0,none⟩=some (.int .i64 mx)) {t:List UInt8} {neg:Bool} (ht:t=Lib.trimPrefix s.data.toList [45]) (hneg:neg=Lib.hasPrefix s.data.toList [45])
   {x0 y0:List UInt8} (hcut0:Lib.cut t [47]=(x0,y0,false)) {a b:List UInt8} {fd:Bool} (hcut:Lib.cut t [46]=(a,b,fd)) (hf:fd=true) (h2:digB b=true) (h1:wholeB a=true) (h3:b.all digC=true) {q:Rat} (hq:q=mkRat (sgn neg (valL (a++b))) (10^b.length)) :
   Calls Tryz.prog 54 #[.string s] w (NumErrRet w (q) 0):=by
 have hsi:((s.size:Nat):Int)≤2000:=by omega
 have hlt:t.length≤2000:=by
   rw [ht]
   exact Nat.le_trans (trim_len _ _) (by rw [size_data];exact hs)
 have hlab:=cut_len t [46]
 rw [hcut] at hlab
 have hla:a.length≤2000:=Nat.le_trans hlab.1 hlt
 have hlb:b.length≤2000:=Nat.le_trans hlab.2 hlt
 obtain ⟨wB,hwB⟩:=eX (w.alloc (.cells #[.bool false,.slice none 0 0,.slice none 0 0] 31))
 have b0:Below w.heap.size w wB:=by rw [hwB];exact (Below.refl _ _).alloc (Nat.le_refl _) _
 have gB:wB.heap[w.heap.size]?=some (.cells #[.bool false,.slice none 0 0,.slice none 0 0] 31 (0,0)):=by rw [hwB];exact heap_alloc_new w _
 have HK0:=hid (Kept.start (T:=31) rfl (plain3 _ _ _ _ _ _ _) gB)
 have HB0:=hid b0
 have hMB:wB.cell? ⟨1,0,none⟩=some (.int .i64 mx):=(b0.cell (p:=⟨1,0,none⟩) (World.block_lt_of_cell? w _ hM)).trans hM
 have HMB:=hid hMB
 have HP:=hid (Tryz.strings_CutPrefix s ⟨#[45]⟩ wB)
 have e1:Lib.trimPrefix s.data.toList (⟨#[45]⟩:ByteArray).data.toList=t:=ht.symm
 have e2:Lib.hasPrefix s.data.toList (⟨#[45]⟩:ByteArray).data.toList=neg:=hneg.symm
 rw [e1,e2] at HP
 have HC:=hid (Tryz.strings_Cut ⟨t.toArray⟩ ⟨#[47]⟩ mx wB (by show t.toArray.size<_;rw [List.size_toArray];omega) hMB)
 have e3:Lib.cut (⟨t.toArray⟩:ByteArray).data.toList (⟨#[47]⟩:ByteArray).data.toList=(x0,y0,false):=hcut0
 rw [e3] at HC
 have HC2:=fun k=>hid (Tryz.strings_Cut ⟨t.toArray⟩ ⟨#[46]⟩ mx (wB.drewN k) (by show t.toArray.size<_;rw [List.size_toArray];omega) hMB)
 have e4:Lib.cut (⟨t.toArray⟩:ByteArray).data.toList (⟨#[46]⟩:ByteArray).data.toList=(a,b,fd):=hcut
 rw [e4] at HC2
 have HLT:=hid hlt
 clear e1 e2 e3 e4 hcut hcut0 ht hneg gB b0 hMB hM hlab hlt
 go_enter Tryz.func54,Tryz.ntmps54
 go_upto_region 3 with fail
 rw [←hwB]
 clear hwB
 go_wp2_with fail
 refine (HP.out).mono ?_
 rintro e w1 ⟨rfl,rfl⟩
 go_wp2_with fail
 refine (HC.out).mono ?_
 rintro e w2 ⟨rfl,n0,rfl⟩
 have HC3:=HC2 n0
 go_wp2_with fail
 refine (HC3.out).mono ?_
 rintro e w2 ⟨rfl,n1,rfl⟩
 clear HP HC HC2 HC3
 have hkk:=HK0.out.call (below_drewN w1 n0)
 have HMB:=hid (show (w1.drewN n0).cell? ⟨1,0,none⟩=some (.int .i64 mx) from HMB.out)
 generalize w1.drewN n0=wc at hkk HMB ⊢
 have HK2:=hid (hkk.call (below_drewN wc n1))
 clear hkk
 have hM2:(wc.drewN n1).cell? ⟨1,0,none⟩=some (.int .i64 mx):=HMB.out
 have HB2:=hid True.intro
 generalize wc.drewN n1=w2 at HK2 hM2 ⊢
 obtain ⟨sa,hsa⟩:=eX (⟨a.toArray⟩:ByteArray)
 obtain ⟨sb,hsb⟩:=eX (⟨b.toArray⟩:ByteArray)
 have hza:sa.size=a.length:=by rw [hsa];show a.toArray.size=_;simp
 have hzb:sb.size=b.length:=by rw [hsb];show b.toArray.size=_;simp
 have hda:sa.data.toList=a:=by rw [hsa]
 have hdb:sb.data.toList=b:=by rw [hsb]
 rw [←hsa,←hsb]
 have HDA:=hid hda;have HDB:=hid hdb
 have hzai:((sa.size:Nat):Int)≤2000:=by omega
 have hzbi:((sb.size:Nat):Int)≤2000:=by omega
 have hza2:sa.size≤2000:=by omega
 have hzb2:sb.size≤2000:=by omega
 have hzb0:=hzb
 clear hsa hsb hza hzb hda hdb HMB
 subst hf
 have HW1:=hid (isWhole_any (w:=w2) (s:=sa) (by omega))
 rw [HDA.out,h1] at HW1
 have HW2:=hid (isDigits_any (w:=w2) (s:=sb) (by omega))
 rw [HDB.out,h2] at HW2
 clear h2
 have hda:=dig_all (whole_dig h1)
 have hab:(a++b).all digC=true:=by rw [List.all_append,Bool.and_eq_true];exact ⟨hda,h3⟩
 have HLB:=hid hlb
 have hla2:=len_valL hab
 have HL:=hid (show len (valL (a++b))≤4001 by rw [List.length_append] at hla2;omega)
 have HN1:Hid (∀ s0:ByteArray,s0.data.toList=a++b→Calls Tryz.prog 99 #[.string s0] w2 (NatRet w2 (valL (a++b)))):=by
   intro s0 e
   have:=natOfDigits_any (w:=w2) (s0:=s0) (by rw [←size_data,e,List.length_append];omega) (by rw [e];exact hab)
   rw [e] at this
   exact this
 have HQ:=hid hq
 have HB:=hid hzb0
 clear hq h1 h3 hda hab hla2 hzb0
 go_wp2_with (first | (go_at_call_of 97 (Value.string sa);refine (HW1.out).mono ?_;rintro e w3 ⟨rfl,rfl⟩) | (go_at_call_of 100 (Value.string sb);refine (HW2.out).mono ?_;rintro e w3 ⟨rfl,rfl⟩))
 go_wp2_with fail
 refine (HN1.out _ ?cat).mono ?_
 case cat =>
   show (sa++sb).data.toList=a++b
   rw [ByteArray.data_append,Array.toList_append,HDA.out,HDB.out]
 rintro e w4 ⟨v4,rfl,hv4,b4⟩
 have hten:Nt (w4.alloc (.cells #[.int .u64 10] 97)) (.slice (some ⟨w4.heap.size,0,none⟩) 1 1) 10:=word_nat w4 (x:=10) (by decide) (by rw [W_eq];decide)
 have hl10:len 10=1:=by decide +kernel
 have HP2:=hid (pow_any (n:=sb.size) hten (by omega) (by rw [hl10];omega) (by rw [hl10];decide))
 have bA:Below w4.heap.size w4 (w4.alloc (.cells #[.int .u64 10] 97)):=(Below.refl _ _).alloc (Nat.le_refl _) _
 have hvA:=hv4.keep bA
 have HKA:=hid ((HK2.out.call b4).call bA)
 have hpb:len (10^sb.size)≤4001:=by
   have:=len_pow_le 10 sb.size
   rw [hl10] at this
   omega
 clear b4 HN1 hten hl10 bA hv4
 go_wp2_with fail
 refine (HP2.out).mono ?_
 rintro e w5 ⟨v5,rfl,hv5,b5⟩
 have hv4':=hvA.keep b5
 have HK5:=hid (HKA.out.call b5)
 have HRD:=hid (reduced_any (neg:=neg) hv4' hv5 (Nat.pow_pos (by decide)) (Nat.le_trans HL.out (by decide)) (Nat.le_trans hpb (by decide)))
 rw [ratOf_sgn,HB.out,←HQ.out] at HRD
 clear b5 HP2 hv4' hv5 hvA HKA hpb HQ
 go_wp2_with fail
 refine (HRD.out).mono ?_
 rintro e w6 ⟨v6,rfl,hv6,b6⟩
 obtain ⟨C1,j1,C2,j2,rfl,-,-⟩:=hv6.opened
 have hk:=(HK5.out.call b6).held (Stay.refl _)
 clear b6 HRD
 obtain ⟨-,c0,c1',c2',f0,f1,f2,-⟩:=id hk
 have HD:=hk.done (q:=q) (b:=decide (q.num<0)) (A1:=C1) (n1:=len q.num.natAbs) (c1:=j1) (A2:=C2) (n2:=len (below q.den)) (c2:=j2) (hv6)
 obtain ⟨d1,d2,d3⟩:=HD
 obtain ⟨r0,r1,r2⟩:=cells3 d3
 have HD:=hid (And.intro d1 d2)
 clear d1 d2 d3
 go_wp2_with fail
 refine bodyPost_ret (v:=.tuple #[.agg #[.bool (decide (q.num<0)),.slice (C1) (len q.num.natAbs) (j1),.slice (C2) (len (below q.den)) (j2)],.int .i64 0]) ?_ rfl ⟨_,rfl,HD.out.1,below_to HB0.out (Nat.le_refl _) HD.out.2⟩
 simp [results,Tryz.results54,go_sem,r0,r1,r2]
def parseV (s:ByteArray):Rat × Int :=
  if 2000<s.size then (0,5) else
    match parseL s.data.toList with
    | none=>(0,4)
    | some q=>(q,0)
theorem cut_none (l m:List UInt8) (h:(Lib.cut l m).2.2=false):(Lib.cut l m).2.1=[]:=by
 revert h
 unfold Lib.cut
 split
 · intro h;cases h
 · intro _;rfl
theorem numParse_any {w:World} {s:ByteArray} {mx:Int} (hM:w.cell? ⟨1,0,none⟩=some (.int .i64 mx)) :
   Calls Tryz.prog 54 #[.string s] w (NumErrRet w (parseV s).1 (parseV s).2):=by
 rcases Nat.lt_or_ge 2000 s.size with h | h
 · have e:parseV s=(0,5):=if_pos h
   rw [e]
   exact parse_long h
 · obtain ⟨t,ht⟩:=eX (Lib.trimPrefix s.data.toList [45])
   obtain ⟨neg,hneg⟩:=eX (Lib.hasPrefix s.data.toList [45])
   have e:parseV s=match parseL s.data.toList with
     | none=>(0,4)
     | some q=>(q,0):=if_neg (by omega)
   obtain ⟨⟨a,b,fd⟩,hc⟩:∃ c,Lib.cut t [47]=c:=⟨_,rfl⟩
   obtain ⟨⟨c,d,gd⟩,hc2⟩:∃ c,Lib.cut t [46]=c:=⟨_,rfl⟩
   have hn:=cut_none t [46]
   rw [hc2] at hn
   unfold parseL at e
   rw [←ht,←hneg,hc,hc2] at e
   rcases fd with _ | _
   · rw [if_neg (show ¬ ((a,b,false).snd.snd=true) from fun h9=>by cases h9)] at e
     rcases h1:wholeB c with _ | _
     · rw [if_neg (by rintro ⟨h2,-⟩;rw [h1] at h2;cases h2)] at e
       rw [e]
       exact parse_point_a h hM ht hneg hc hc2 h1
     · rcases gd with _ | _
       · rw [if_pos ⟨h1,by intro h2;cases h2⟩] at e
         rw [e]
         have hd:d=[]:=hn rfl
         exact parse_point_d h hM ht hneg hc hc2 rfl h1 (by rw [hd];rfl) rfl
       · rcases h2:digB d with _ | _
         · rw [if_neg (by rintro ⟨-,h3⟩;have:=h3 rfl;rw [h2] at this;cases this)] at e
           rw [e]
           exact parse_point_b h hM ht hneg hc hc2 rfl h1 h2
         · rw [if_pos ⟨h1,fun _=>h2⟩] at e
           rw [e]
           exact parse_point_c h hM ht hneg hc hc2 rfl h2 h1 (dig_all h2) rfl
   · rw [if_pos rfl] at e
     rcases h1:wholeB a with _ | _
     · rw [if_neg (by rintro ⟨h2,-⟩;rw [h1] at h2;cases h2)] at e
       rw [e]
       exact parse_slash_a h hM ht hneg hc rfl h1
     · rcases h2:wholeB b with _ | _
       · rw [if_neg (by rintro ⟨-,h3,-⟩;rw [h2] at h3;cases h3)] at e
         rw [e]
         exact parse_slash_b h hM ht hneg hc rfl h1 h2
       · rcases Decidable.em (b=[48]) with h3 | h3
         · rw [if_neg (by rintro ⟨-,-,h4⟩;exact h4 h3)] at e
           rw [e]
           exact parse_slash_c h hM ht hneg hc rfl h1 h2 h3
         · rw [if_pos ⟨h1,h2,h3⟩] at e
           rw [e]
           exact parse_slash_d h hM ht hneg hc rfl h1 h2 h3 rfl
end Go.Proofs.YtlcimajjnfbidaaGreatDoor
namespace Go.Proofs.YtlcimajjnfbidaaGreatDoor
open Lib (hid)
open Go.RowKit
open Vx
theorem number_to {w:World} {s:ByteArray} {mx:Int} {q:Rat} (hM:w.cell? ⟨1,0,none⟩=some (.int .i64 mx)) (hq:(parseV s).1=q) :
   Calls Tryz.prog 41 #[.string s] w (NumRet w q):=by
 obtain ⟨wB,hwB⟩:=eX (w.alloc (.cells #[.bool false,.slice none 0 0,.slice none 0 0] 31))
 have b0:Below w.heap.size w wB:=by rw [hwB];exact (Below.refl _ _).alloc (Nat.le_refl _) _
 have gB:wB.heap[w.heap.size]?=some (.cells #[.bool false,.slice none 0 0,.slice none 0 0] 31 (0,0)):=by rw [hwB];exact heap_alloc_new w _
 have HK0:=hid (Kept.start (T:=31) rfl (plain3 _ _ _ _ _ _ _) gB)
 have HB0:=hid b0
 have hMB:wB.cell? ⟨1,0,none⟩=some (.int .i64 mx):=(b0.cell (p:=⟨1,0,none⟩) (World.block_lt_of_cell? w _ hM)).trans hM
 have HX:=hid (numParse_any (s:=s) hMB)
 rw [hq] at HX
 obtain ⟨c,hc⟩:=eX ((parseV s).2)
 rw [←hc] at HX
 clear hc hq hMB hM gB b0
 go_enter Tryz.func41,Tryz.ntmps41
 go_upto_region 1 with fail
 rw [←hwB]
 clear hwB
 go_wp2_with fail
 refine (HX.out).mono ?_
 rintro e w2 ⟨v2,rfl,hv2,b2⟩
 obtain ⟨B1,e1,B2,e2,rfl,-,-⟩:=hv2.opened
 have HK2:=hid (HK0.out.call b2)
 go_upto_region 2 with fail
 obtain ⟨w3,hw3⟩:=eX (w2.alloc (.cells #[.bool (decide (q.num<0)),.slice B1 (len q.num.natAbs) e1,.slice B2 (len (below q.den)) e2] 31))
 have b3:Below w2.heap.size w2 w3:=by rw [hw3];exact (Below.refl _ _).alloc (Nat.le_refl _) _
 have g3:w3.heap[w2.heap.size]?=some (.cells #[.bool (decide (q.num<0)),.slice B1 (len q.num.natAbs) e1,.slice B2 (len (below q.den)) e2] 31 (0,0)):=by rw [hw3];exact heap_alloc_new w2 _
 obtain ⟨p0,p1,p2⟩:=cells3 g3
 have hk:=(HK2.out.call b3).held (Stay.refl _)
 have hv3:=hv2.keep b3
 rw [←hw3]
 clear hw3 g3 b3 b2 HX
 obtain ⟨-,c0,c1',c2',f0,f1,f2,-⟩:=id hk
 have HD:=hk.done (q:=q) (b:=decide (q.num<0)) (A1:=B1) (n1:=len q.num.natAbs) (c1:=e1) (A2:=B2) (n2:=len (below q.den)) (c2:=e2) (hv3)
 obtain ⟨d1,d2,d3⟩:=HD
 obtain ⟨r0,r1,r2⟩:=cells3 d3
 have HD:=hid (And.intro d1 d2)
 clear d1 d2 d3
 go_wp2_with fail
 refine bodyPost_ret (v:=.agg #[.bool (decide (q.num<0)),.slice (B1) (len q.num.natAbs) (e1),.slice (B2) (len (below q.den)) (e2)]) ?_ rfl ⟨_,rfl,HD.out.1,below_to HB0.out (Nat.le_refl _) HD.out.2⟩
 simp [results,Tryz.results41,go_sem,r0,r1,r2]
def BoolRet (w:World) (b:Bool) (e:Ending) (w':World):Prop:=e=.returned (.bool b)∧Below w.heap.size w w'
theorem below_eq {G:Nat} {w w':World} (h:Below G w w') (e:w.heap.size=G):Below w.heap.size w w':=by rw [e];exact h
theorem cmpQ_same (x:Rat):cmpQ x x=0:=by
 unfold cmpQ
 rw [if_neg (by rw [Rat.not_lt];exact Rat.le_refl),if_pos rfl]
theorem equal_to {w:World} {vx vy:Value} {x y:Rat} (hx:IsNum w vx x) (hy:IsNum w vy y) (hxy:x=y) (hs:siz x≤536870912) (hT:TabAt 0 Lib.deBruijn64tab w) :
   Calls Tryz.prog 50 #[vx,vy] w (BoolRet w true):=by
 obtain ⟨A1,c1,A2,c2,rfl,hx1,hx2⟩:=hx.opened
 obtain ⟨A3,c3,A4,c4,rfl,hy1,hy2⟩:=hy.opened
 obtain ⟨wB,hwB⟩:=eX ((w.alloc (.cells #[.bool (decide (x.num<0)),.slice A1 (len x.num.natAbs) c1,.slice A2 (len (below x.den)) c2] 31)).alloc (.cells #[.bool (decide (y.num<0)),.slice A3 (len y.num.natAbs) c3,.slice A4 (len (below y.den)) c4] 31))
 obtain ⟨b0,gA,gA2⟩:=news2' hwB
 obtain ⟨k0,k1,k2⟩:=cells3 gA
 obtain ⟨k3,k4,k5⟩:=cells3 gA2
 have HB0:=hid b0
 clear gA gA2 b0
 have HSZ:Hid (wB.heap.size=w.heap.size+2):=by show _=_;rw [hwB,World.size_alloc,World.size_alloc]
 have hlt1:w.heap.size<w.heap.size+2:=by omega
 have hlt2:w.heap.size+1<w.heap.size+2:=by omega
 have hsy:siz y≤536870912:=by rw [←hxy];exact hs
 have hTB:=tab_keep hT HB0.out
 have H0:=Held0.start wB (w.heap.size+2)
 have hxB:=hx.keep HB0.out
 have hyB:=hy.keep HB0.out
 obtain ⟨l,hl⟩:=eX (textQ x)
 have hl2:textQ y=l:=by rw [hl,hxy]
 have hcm:cmpQ x y=0:=by rw [hxy];exact cmpQ_same y
 have HX:=fun (w':World) (hk:Held0 wB (w.heap.size+2) wB w')=>hid (numCmp_any (hk.2.2.num hxB) (hk.2.2.num hyB) (Nat.le_trans hs (by decide)) (Nat.le_trans hsy (by decide)))
 rw [hcm] at HX
 have HY:=fun (w':World) (hk:Held0 wB (w.heap.size+2) wB w')=>hid (numString_any (hk.2.2.num hxB) hs (tab_keep hTB (below_eq hk.2.1 HSZ.out)))
 have HZ:=fun (w':World) (hk:Held0 wB (w.heap.size+2) wB w')=>hid (numString_any (hk.2.2.num hyB) hsy (tab_keep hTB (below_eq hk.2.1 HSZ.out)))
 rw [←hl] at HY
 rw [hl2] at HZ
 clear hxy hl hl2 hcm hs hsy hTB hxB hyB hx hy hx1 hx2 hy1 hy2 hT
 go_enter Tryz.func50,Tryz.ntmps50
 go_upto_region 1 with fail
 rw [←hwB]
 clear hwB
 go_wp2_with fail
 go_region_held3 (fun w'=>(∀ b o,b<w.heap.size+2→w'.cell? ⟨b,o,none⟩=wB.cell? ⟨b,o,none⟩)∧Below (w.heap.size+2) wB w'∧Stay wB w')
   (first | exact H0 | exact hk3 | exact hk2 | exact hk1)
   (first | (go_at_call 74;refine ((HX _ H0).out).mono ?_;rintro e w1 ⟨rfl,hbl1⟩;have hk1:=Held0.call H0 (Nat.le_of_eq HSZ.out.symm) hbl1) | (go_at_call_of 55 (Value.agg #[.bool (decide (x.num<0)),.slice A1 (len x.num.natAbs) c1,.slice A2 (len (below x.den)) c2]);refine ((HY _ hk1).out).mono ?_;rintro e w2 ⟨rfl,hbl2⟩;have hk2:=Held0.call hk1 (Nat.le_of_eq HSZ.out.symm) hbl2) | (go_at_call_of 55 (Value.agg #[.bool (decide (y.num<0)),.slice A3 (len y.num.natAbs) c3,.slice A4 (len (below y.den)) c4]);refine ((HZ _ hk2).out).mono ?_;rintro e w3 ⟨rfl,hbl3⟩;have hk3:=Held0.call hk2 (Nat.le_of_eq HSZ.out.symm) hbl3))
 rename_i hHl
 clear hHl
 have HB3:=hid (HB0.out.trans (hk3.2.1.mono (by omega)))
 clear hk1 hk2 hk3 H0 k0 k1 k2 k3 k4 k5 HX HY HZ hbl1 hbl2 hbl3
 go_wp2_with fail
 go_ret
 exact ⟨rfl,HB3.out⟩
end Go.Proofs.YtlcimajjnfbidaaGreatDoor
