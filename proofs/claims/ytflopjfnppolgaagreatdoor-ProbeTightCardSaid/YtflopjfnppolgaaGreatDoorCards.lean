/-
  DERIVED. GIVEN WITH THE SEED: THE CARDS: each row of YtflopjfnppolgaaGreatDoorRows.lean that lists a variable, with what it lists TIED to the program's text (the seventh form; the later family's looks); each row that meets fmt, with fmt's text TOLD by the authors' own Lean function (tested against real Go, not proved from fmt's source: count such statements apart). THE CARD IS WHAT COUNTS. Prove the row's statement (the work); the ties are given (YtflopjfnppolgaaGreatDoorTie.lean); close each card by the builder's one call (the guide's Derived/Test/ToyasCard.lean, 'card_holds'). Laid BY PROGRAM, IN A SANDBOX (cutbox-door.mjs). By AI agents, Wed Nov 11 2026. No macro, syntax, notation, axiom, sorry.
-/
import Derived.Test.YtflopjfnppolgaaGreatDoorRows
import GoSem.ClaimSeven
namespace Go.Proofs.YtflopjfnppolgaaGreatDoor
namespace Rows

/-- THE TIED CARD OF 'venturilaw04.ProbeTight'. -/
def probeTightCard : Claim7 := { stood := { row := probeTightRow, standIns := [], harness := (true, "32fc0274b3753d327dcd11aeae5602f111c9cd10dfa491cb40f75150a985dc62"), looks := false }, kinds := [], alts := [], laidByText := true, laidKinds := [.data, .data, .pinned], laidTests := true, laidLooks := .later }
def ProbeTightCardSaid : Prop := Claim7.holds Tryz.pinned (.plain (OpenSpec.ofChange probeTightSpec)) probeTightCard

/-- THE TIED CARD OF 'venturilaw04.ProbeLeaks'. -/
def probeLeaksCard : Claim7 := { stood := { row := probeLeaksRow, standIns := [], harness := (true, "32fc0274b3753d327dcd11aeae5602f111c9cd10dfa491cb40f75150a985dc62"), looks := false }, kinds := [], alts := [], laidByText := true, laidKinds := [.data, .data, .pinned], laidTests := true, laidLooks := .later }
def ProbeLeaksCardSaid : Prop := Claim7.holds Tryz.pinned (.plain (OpenSpec.ofChange probeLeaksSpec)) probeLeaksCard

/-- THE SECOND FORM's CARD OF 'venturilaw04.ProbeTight'. -/
def probeTightUptoCard : Claim7 := { stood := { row := probeTightUptoRow, standIns := [], harness := (true, "32fc0274b3753d327dcd11aeae5602f111c9cd10dfa491cb40f75150a985dc62"), looks := false }, kinds := [], alts := [], laidByText := true, laidKinds := [.data, .data, .pinned], laidTests := true, laidLooks := .later }
def ProbeTightUptoCardSaid : Prop := Claim7.holds Tryz.pinned (.plain (OpenSpec.upto probeTightSpec)) probeTightUptoCard

/-- THE SECOND FORM's CARD OF 'venturilaw04.ProbeLeaks'. -/
def probeLeaksUptoCard : Claim7 := { stood := { row := probeLeaksUptoRow, standIns := [], harness := (true, "32fc0274b3753d327dcd11aeae5602f111c9cd10dfa491cb40f75150a985dc62"), looks := false }, kinds := [], alts := [], laidByText := true, laidKinds := [.data, .data, .pinned], laidTests := true, laidLooks := .later }
def ProbeLeaksUptoCardSaid : Prop := Claim7.holds Tryz.pinned (.plain (OpenSpec.upto probeLeaksSpec)) probeLeaksUptoCard
end Rows
end Go.Proofs.YtflopjfnppolgaaGreatDoor
