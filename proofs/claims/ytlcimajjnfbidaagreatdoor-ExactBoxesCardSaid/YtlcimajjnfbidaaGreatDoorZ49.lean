/-
  Contracts of the functions that the law calls, for every input (Bo).
-/
import Derived.Test.YtlcimajjnfbidaaGreatDoorZ00
import Derived.Test.YtlcimajjnfbidaaGreatDoorZ48
set_option linter.all false
set_option maxRecDepth 100000
set_option maxHeartbeats 40000000
namespace Go.Proofs.YtlcimajjnfbidaaGreatDoor.Rf
open Lib (hid)
open Go.RowKit
open Rx
open Vx (Aa' Ao Ao')
open List renaming getElem?_toArray → lg, getElem?_cons_zero → lz, getElem?_cons_succ → ls, setIfInBounds_toArray → lt, set_cons_zero → ly, set_cons_succ → lu
theorem Ib {w:World} {s1 s2 s3 s4:ByteArray} {n:Int} {mx:Int} (h1:¬ 60<s1.size) (h2:¬ 60<s2.size) (h3:¬ 60<s3.size) (h4:¬ 60<s4.size) (hn:n≤8) (hM:w.cell? ⟨1,0,none⟩=some (.int .i64 mx)) (hT:TabAt 0 Lib.deBruijn64tab w) :
   Calls Tryz.prog 4 #[.agg #[.string s1,.string s2],.agg #[.string s3,.string s4],.int .i64 n] w (AM w true):=by
 have d1:decide (((s1.size:Nat):Int)>60)=false:=dF_ (by omega)
 have d1':¬ (((s1.size:Nat):Int)>60):=by omega
 have d2:decide (((s2.size:Nat):Int)>60)=false:=dF_ (by omega)
 have d2':¬ (((s2.size:Nat):Int)>60):=by omega
 have d3:decide (((s3.size:Nat):Int)>60)=false:=dF_ (by omega)
 have d3':¬ (((s3.size:Nat):Int)>60):=by omega
 have d4:decide (((s4.size:Nat):Int)>60)=false:=dF_ (by omega)
 have d4':¬ (((s4.size:Nat):Int)>60):=by omega
 have d5:decide (n>8)=false:=dF_ (by omega)
 replace hn:=hid hn
 replace h1:=hid h1
 replace h2:=hid h2
 replace h3:=hid h3
 replace h4:=hid h4
 replace hM:=hid hM
 replace hT:=hid hT
 obtain ⟨w1,hw1⟩:=eX ((w.alloc (.cells #[.string s1,.string s2] 46)).alloc (.cells #[.string s3,.string s4] 46))
 obtain ⟨b1,g1,g2⟩:=Aq' hw1
 replace b1:=hid b1
 replace g1:=hid g1
 replace g2:=hid g2
 have hg:w1.heap[w.heap.size]?=some (.cells #[.string s1,.string s2] 46 (0,0)):=((Below.refl _ w1).block _ (gE.1 g1.out).1).trans g1.out
 have z_e_0:w1.cell? ⟨w.heap.size,0,none⟩=some (.string s1):=cR _ _ _ _ _ _ hg
 have z_e_1:w1.cell? ⟨w.heap.size,1,none⟩=some (.string s2):=cR _ _ _ _ _ _ hg
 clear hg
 have hg:w1.heap[w.heap.size+1]?=some (.cells #[.string s3,.string s4] 46 (0,0)):=((Below.refl _ w1).block _ (gE.1 g2.out).1).trans g2.out
 have z_f_0:w1.cell? ⟨w.heap.size+1,0,none⟩=some (.string s3):=cR _ _ _ _ _ _ hg
 have z_f_1:w1.cell? ⟨w.heap.size+1,1,none⟩=some (.string s4):=cR _ _ _ _ _ _ hg
 clear hg
 go_enter Tryz.func4,Tryz.ntmps4
 go_upto_region 1 with fail
 rw [←hw1]
 clear hw1
 rename_i G hG Gb hGb
 replace hG:=hid hG
 go_wp2_with fail
 refine hG.out _ _ ?_
 exact Fk' h1.out h2.out h3.out h4.out (by rcases Decidable.em (n<0) with k | k;exact Or.inl k;exact Or.inr (Or.inr ⟨by omega,hn.out⟩)) g1.out g2.out (Az' hM.out b1.out) (tab_keep hT.out b1.out) b1.out
theorem Ib' {w:World} {s1 s2 s3 s4:ByteArray} {n:Int} {mx:Int} (h1:¬ 60<s1.size) (h2:¬ 60<s2.size) (h3:¬ 60<s3.size) (h4:¬ 60<s4.size) (hn:64<n) (hM:w.cell? ⟨1,0,none⟩=some (.int .i64 mx)) (hT:TabAt 0 Lib.deBruijn64tab w) :
   Calls Tryz.prog 4 #[.agg #[.string s1,.string s2],.agg #[.string s3,.string s4],.int .i64 n] w (AM w true):=by
 have d1:decide (((s1.size:Nat):Int)>60)=false:=dF_ (by omega)
 have d1':¬ (((s1.size:Nat):Int)>60):=by omega
 have d2:decide (((s2.size:Nat):Int)>60)=false:=dF_ (by omega)
 have d2':¬ (((s2.size:Nat):Int)>60):=by omega
 have d3:decide (((s3.size:Nat):Int)>60)=false:=dF_ (by omega)
 have d3':¬ (((s3.size:Nat):Int)>60):=by omega
 have d4:decide (((s4.size:Nat):Int)>60)=false:=dF_ (by omega)
 have d4':¬ (((s4.size:Nat):Int)>60):=by omega
 have d5:decide (n>8)=true:=dT_ (by omega)
 have d6:decide (n≤64)=false:=dF_ (by omega)
 replace hn:=hid hn
 replace h1:=hid h1
 replace h2:=hid h2
 replace h3:=hid h3
 replace h4:=hid h4
 replace hM:=hid hM
 replace hT:=hid hT
 obtain ⟨w1,hw1⟩:=eX ((w.alloc (.cells #[.string s1,.string s2] 46)).alloc (.cells #[.string s3,.string s4] 46))
 obtain ⟨b1,g1,g2⟩:=Aq' hw1
 replace b1:=hid b1
 replace g1:=hid g1
 replace g2:=hid g2
 have hg:w1.heap[w.heap.size]?=some (.cells #[.string s1,.string s2] 46 (0,0)):=((Below.refl _ w1).block _ (gE.1 g1.out).1).trans g1.out
 have z_e_0:w1.cell? ⟨w.heap.size,0,none⟩=some (.string s1):=cR _ _ _ _ _ _ hg
 have z_e_1:w1.cell? ⟨w.heap.size,1,none⟩=some (.string s2):=cR _ _ _ _ _ _ hg
 clear hg
 have hg:w1.heap[w.heap.size+1]?=some (.cells #[.string s3,.string s4] 46 (0,0)):=((Below.refl _ w1).block _ (gE.1 g2.out).1).trans g2.out
 have z_f_0:w1.cell? ⟨w.heap.size+1,0,none⟩=some (.string s3):=cR _ _ _ _ _ _ hg
 have z_f_1:w1.cell? ⟨w.heap.size+1,1,none⟩=some (.string s4):=cR _ _ _ _ _ _ hg
 clear hg
 go_enter Tryz.func4,Tryz.ntmps4
 go_upto_region 1 with fail
 rw [←hw1]
 clear hw1
 rename_i G hG Gb hGb
 replace hG:=hid hG
 go_wp2_with fail
 refine hG.out _ _ ?_
 exact Fk' h1.out h2.out h3.out h4.out (Or.inr (Or.inl hn.out)) g1.out g2.out (Az' hM.out b1.out) (tab_keep hT.out b1.out) b1.out
theorem Fl {w:World} {s1 s2 s3 s4:ByteArray} {n:Int} {mx:Int} (hM:w.cell? ⟨1,0,none⟩=some (.int .i64 mx)) (hT:TabAt 0 Lib.deBruijn64tab w) :
   Calls Tryz.prog 4 #[.agg #[.string s1,.string s2],.agg #[.string s3,.string s4],.int .i64 n] w (AM w true):=by
 rcases Decidable.em (60<s1.size) with h1 | h1
 · exact H8' h1 hM hT
 · rcases Decidable.em (60<s2.size) with h2 | h2
   · exact H9 h1 h2 hM hT
   · rcases Decidable.em (60<s3.size) with h3 | h3
     · exact H9' h1 h2 h3 hM hT
     · rcases Decidable.em (60<s4.size) with h4 | h4
       · exact Ia h1 h2 h3 h4 hM hT
       · rcases Decidable.em (n≤8) with h5 | h5
         · exact Ib h1 h2 h3 h4 h5 hM hT
         · rcases Decidable.em (64<n) with h6 | h6
           · exact Ib' h1 h2 h3 h4 h6 hM hT
           · exact Ia' h1 h2 h3 h4 (by omega) (by omega) hM hT
end Go.Proofs.YtlcimajjnfbidaaGreatDoor.Rf
