/-
  Contracts of the functions that the law calls, for every input (Ru).
-/
import Derived.Test.YtbigkkjnhcpgiaaGreatDoorQ00
import Derived.Test.YtbigkkjnhcpgiaaGreatDoorQ34
set_option linter.all false
set_option maxRecDepth 100000
set_option maxHeartbeats 40000000
namespace Go.Proofs.YtbigkkjnhcpgiaaGreatDoor.Rf
open Lib (hid)
open Go.RowKit
open Rx
theorem Gt' {w:World} {s:ByteArray} (hs:s.size≤2000):Calls Tryz.prog 74 #[.string s] w (AB' w (Ap' s).1 (Ap' s).2):=by
 obtain ⟨neg,t,hng,htl,hts,hcase⟩:=Iq s
 have hpv:Ap' s=(match AX' neg t.data.toList with | none=>((0:Rat),(4:Int)) | some q=>(q,0)):=by
   unfold Ap'
   rw [if_neg (by omega),Hl',hng,←htl];rfl
 obtain ⟨PV,hPV⟩:=eY (AB' w (Ap' s).1 (Ap' s).2)
 rw [hPV]
 rw [hpv] at hPV
 replace hPV:=hid hPV.symm
 have e1:decide (((s.size:Nat):Int)>2000)=false:=dF_ (by omega)
 have e0:((s.size:Nat):Int)≤2000:=by omega
 have et:t.size≤2000:=by omega
 clear hng htl hpv hts
 obtain ⟨wB,hwB⟩:=eX (w.alloc (.cells #[.bool false,.slice none 0 0,.slice none 0 0] 39))
 have hRB:=RB.start w
 have hbB:=Ag' w (.cells #[.bool false,.slice none 0 0,.slice none 0 0] 39)
 rw [←hwB] at hRB hbB
 obtain ⟨R,hR⟩:=eY w.heap.size
 rw [hR] at hRB
 replace hRB:=hid hRB
 replace hbB:=hid hbB
 go_enter Tryz.func74,Tryz.ntmps74
 go_upto_region 1 with fail
 rw [←hwB]
 replace hR:=hid hR
 clear hwB
 obtain ⟨l,hl⟩:=eY t.data.toList
 rw [hl] at hPV
 replace hl:=hid hl
 rcases hcase with ⟨rfl,h0,h45,hex⟩ | ⟨rfl,hst,h9⟩
 · have g1:decide (0<s.size)=true:=dT_ h0
   have g2:(0:Int)<((s.size:Nat):Int):=by omega
   have g3:(((s[0].toNat:Nat):Int)==45)=true:=by rw [beq_iff_eq];omega
   have g4:(1:Int)≤((s.size:Nat):Int):=by omega
   go_upto_region 4 with fail
   rename_i G4 hG4 Gb hGb
   replace hG4:=hid hG4
   go_wp2_with fail
   refine hG4.out _ _ ?_
   exact C1' et hl.out hPV.out hRB.out hR.out
 · rcases h9 with h0 | ⟨h0,h45⟩
   · have g1:decide (0<s.size)=false:=dF_ (by omega)
     have g2:((s.size:Nat):Int)≤0:=by omega
     replace hst:=hid hst
     go_upto_region 4 with fail
     rename_i G4 hG4 Gb hGb
     replace hG4:=hid hG4
     go_wp2_with fail
     refine hG4.out _ _ ?_
     exact C1' (by rw [←hst.out];exact et) (by rw [←hst.out];exact hl.out) hPV.out hRB.out hR.out
   · have g1:decide (0<s.size)=true:=dT_ h0
     have g2:(0:Int)<((s.size:Nat):Int):=by omega
     have g3:(((s[0].toNat:Nat):Int)==45)=false:=by rw [beq_eq_false_iff_ne];omega
     replace hst:=hid hst
     go_upto_region 4 with fail
     rename_i G4 hG4 Gb hGb
     replace hG4:=hid hG4
     go_wp2_with fail
     refine hG4.out _ _ ?_
     exact C1' (by rw [←hst.out];exact et) (by rw [←hst.out];exact hl.out) hPV.out hRB.out hR.out
theorem Hn {w:World} {s:ByteArray} (hs:s.size≤1048576):Calls Tryz.prog 74 #[.string s] w (AB' w (Ap' s).1 (Ap' s).2):=by
 rcases Nat.lt_or_ge 2000 s.size with h | h
 · exact CX' h hs
 · exact Gt' h
end Go.Proofs.YtbigkkjnhcpgiaaGreatDoor.Rf
