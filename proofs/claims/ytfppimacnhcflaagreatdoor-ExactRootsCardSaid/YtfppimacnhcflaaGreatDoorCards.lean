/-
  DERIVED. GIVEN WITH THE SEED: THE CARDS: each row of YtfppimacnhcflaaGreatDoorRows.lean that lists a variable, with what it lists TIED to the program's text (the seventh form; the later family's looks); each row that meets fmt, with fmt's text TOLD by the authors' own Lean function (tested against real Go, not proved from fmt's source: count such statements apart). THE CARD IS WHAT COUNTS. Prove the row's statement (the work); the ties are given (YtfppimacnhcflaaGreatDoorTie.lean); close each card by the builder's one call (the guide's Derived/Test/ToyasCard.lean, 'card_holds'). Laid BY PROGRAM, IN A SANDBOX (cutbox-door.mjs). By AI agents, Wed Nov 11 2026. No macro, syntax, notation, axiom, sorry.
-/
import Derived.Test.YtfppimacnhcflaaGreatDoorRows
import GoSem.ClaimSeven
namespace Go.Proofs.YtfppimacnhcflaaGreatDoor
namespace Rows

/-- THE TIED CARD OF 'venturilaw01.ExactMakes'. -/
def exactMakesCard : Claim7 := { stood := { row := exactMakesRow, standIns := [], harness := (true, "73831e6d106c9b1ca7cdc75be08a59c7c0c80ba03ffdc1eeebde2c8e1faa58d5"), looks := false }, kinds := [], alts := [], laidByText := true, laidKinds := [.data, .data, .pinned], laidTests := true, laidLooks := .later }
def ExactMakesCardSaid : Prop := Claim7.holds Tryz.pinned (.plain (OpenSpec.ofChange exactMakesSpec)) exactMakesCard

/-- THE TIED CARD OF 'venturilaw01.ExactComputes'. -/
def exactComputesCard : Claim7 := { stood := { row := exactComputesRow, standIns := [], harness := (true, "73831e6d106c9b1ca7cdc75be08a59c7c0c80ba03ffdc1eeebde2c8e1faa58d5"), looks := false }, kinds := [], alts := [], laidByText := true, laidKinds := [.data, .data, .pinned], laidTests := true, laidLooks := .later }
def ExactComputesCardSaid : Prop := Claim7.holds Tryz.pinned (.plain (OpenSpec.ofChange exactComputesSpec)) exactComputesCard

/-- THE TIED CARD OF 'venturilaw01.ExactPowers'. -/
def exactPowersCard : Claim7 := { stood := { row := exactPowersRow, standIns := [], harness := (true, "73831e6d106c9b1ca7cdc75be08a59c7c0c80ba03ffdc1eeebde2c8e1faa58d5"), looks := false }, kinds := [], alts := [], laidByText := true, laidKinds := [.data, .data, .pinned], laidTests := true, laidLooks := .later }
def ExactPowersCardSaid : Prop := Claim7.holds Tryz.pinned (.plain (OpenSpec.ofChange exactPowersSpec)) exactPowersCard

/-- THE TIED CARD OF 'venturilaw01.ExactSums'. -/
def exactSumsCard : Claim7 := { stood := { row := exactSumsRow, standIns := [], harness := (true, "73831e6d106c9b1ca7cdc75be08a59c7c0c80ba03ffdc1eeebde2c8e1faa58d5"), looks := false }, kinds := [], alts := [], laidByText := true, laidKinds := [.data, .data, .pinned], laidTests := true, laidLooks := .later }
def ExactSumsCardSaid : Prop := Claim7.holds Tryz.pinned (.plain (OpenSpec.ofChange exactSumsSpec)) exactSumsCard

/-- THE TIED CARD OF 'venturilaw01.ExactSpans'. -/
def exactSpansCard : Claim7 := { stood := { row := exactSpansRow, standIns := [], harness := (true, "73831e6d106c9b1ca7cdc75be08a59c7c0c80ba03ffdc1eeebde2c8e1faa58d5"), looks := false }, kinds := [], alts := [], laidByText := true, laidKinds := [.data, .data, .pinned], laidTests := true, laidLooks := .later }
def ExactSpansCardSaid : Prop := Claim7.holds Tryz.pinned (.plain (OpenSpec.ofChange exactSpansSpec)) exactSpansCard

/-- THE TIED CARD OF 'venturilaw01.ExactBoxes'. -/
def exactBoxesCard : Claim7 := { stood := { row := exactBoxesRow, standIns := [], harness := (true, "73831e6d106c9b1ca7cdc75be08a59c7c0c80ba03ffdc1eeebde2c8e1faa58d5"), looks := false }, kinds := [], alts := [], laidByText := true, laidKinds := [.data, .data, .pinned], laidTests := true, laidLooks := .later }
def ExactBoxesCardSaid : Prop := Claim7.holds Tryz.pinned (.plain (OpenSpec.ofChange exactBoxesSpec)) exactBoxesCard

/-- THE TIED CARD OF 'venturilaw01.ExactRoots'. -/
def exactRootsCard : Claim7 := { stood := { row := exactRootsRow, standIns := [], harness := (true, "73831e6d106c9b1ca7cdc75be08a59c7c0c80ba03ffdc1eeebde2c8e1faa58d5"), looks := false }, kinds := [], alts := [], laidByText := true, laidKinds := [.data, .data, .pinned], laidTests := true, laidLooks := .later }
def ExactRootsCardSaid : Prop := Claim7.holds Tryz.pinned (.plain (OpenSpec.ofChange exactRootsSpec)) exactRootsCard

/-- THE TIED CARD OF 'venturilaw01.ExactPolys'. -/
def exactPolysCard : Claim7 := { stood := { row := exactPolysRow, standIns := [], harness := (true, "73831e6d106c9b1ca7cdc75be08a59c7c0c80ba03ffdc1eeebde2c8e1faa58d5"), looks := false }, kinds := [], alts := [], laidByText := true, laidKinds := [.data, .data, .pinned], laidTests := true, laidLooks := .later }
def ExactPolysCardSaid : Prop := Claim7.holds Tryz.pinned (.plain (OpenSpec.ofChange exactPolysSpec)) exactPolysCard

/-- THE SECOND FORM's CARD OF 'venturilaw01.ExactMakes'. -/
def exactMakesUptoCard : Claim7 := { stood := { row := exactMakesUptoRow, standIns := [], harness := (true, "73831e6d106c9b1ca7cdc75be08a59c7c0c80ba03ffdc1eeebde2c8e1faa58d5"), looks := false }, kinds := [], alts := [], laidByText := true, laidKinds := [.data, .data, .pinned], laidTests := true, laidLooks := .later }
def ExactMakesUptoCardSaid : Prop := Claim7.holds Tryz.pinned (.plain (OpenSpec.upto exactMakesSpec)) exactMakesUptoCard

/-- THE SECOND FORM's CARD OF 'venturilaw01.ExactComputes'. -/
def exactComputesUptoCard : Claim7 := { stood := { row := exactComputesUptoRow, standIns := [], harness := (true, "73831e6d106c9b1ca7cdc75be08a59c7c0c80ba03ffdc1eeebde2c8e1faa58d5"), looks := false }, kinds := [], alts := [], laidByText := true, laidKinds := [.data, .data, .pinned], laidTests := true, laidLooks := .later }
def ExactComputesUptoCardSaid : Prop := Claim7.holds Tryz.pinned (.plain (OpenSpec.upto exactComputesSpec)) exactComputesUptoCard

/-- THE SECOND FORM's CARD OF 'venturilaw01.ExactPowers'. -/
def exactPowersUptoCard : Claim7 := { stood := { row := exactPowersUptoRow, standIns := [], harness := (true, "73831e6d106c9b1ca7cdc75be08a59c7c0c80ba03ffdc1eeebde2c8e1faa58d5"), looks := false }, kinds := [], alts := [], laidByText := true, laidKinds := [.data, .data, .pinned], laidTests := true, laidLooks := .later }
def ExactPowersUptoCardSaid : Prop := Claim7.holds Tryz.pinned (.plain (OpenSpec.upto exactPowersSpec)) exactPowersUptoCard

/-- THE SECOND FORM's CARD OF 'venturilaw01.ExactSums'. -/
def exactSumsUptoCard : Claim7 := { stood := { row := exactSumsUptoRow, standIns := [], harness := (true, "73831e6d106c9b1ca7cdc75be08a59c7c0c80ba03ffdc1eeebde2c8e1faa58d5"), looks := false }, kinds := [], alts := [], laidByText := true, laidKinds := [.data, .data, .pinned], laidTests := true, laidLooks := .later }
def ExactSumsUptoCardSaid : Prop := Claim7.holds Tryz.pinned (.plain (OpenSpec.upto exactSumsSpec)) exactSumsUptoCard

/-- THE SECOND FORM's CARD OF 'venturilaw01.ExactSpans'. -/
def exactSpansUptoCard : Claim7 := { stood := { row := exactSpansUptoRow, standIns := [], harness := (true, "73831e6d106c9b1ca7cdc75be08a59c7c0c80ba03ffdc1eeebde2c8e1faa58d5"), looks := false }, kinds := [], alts := [], laidByText := true, laidKinds := [.data, .data, .pinned], laidTests := true, laidLooks := .later }
def ExactSpansUptoCardSaid : Prop := Claim7.holds Tryz.pinned (.plain (OpenSpec.upto exactSpansSpec)) exactSpansUptoCard

/-- THE SECOND FORM's CARD OF 'venturilaw01.ExactBoxes'. -/
def exactBoxesUptoCard : Claim7 := { stood := { row := exactBoxesUptoRow, standIns := [], harness := (true, "73831e6d106c9b1ca7cdc75be08a59c7c0c80ba03ffdc1eeebde2c8e1faa58d5"), looks := false }, kinds := [], alts := [], laidByText := true, laidKinds := [.data, .data, .pinned], laidTests := true, laidLooks := .later }
def ExactBoxesUptoCardSaid : Prop := Claim7.holds Tryz.pinned (.plain (OpenSpec.upto exactBoxesSpec)) exactBoxesUptoCard

/-- THE SECOND FORM's CARD OF 'venturilaw01.ExactRoots'. -/
def exactRootsUptoCard : Claim7 := { stood := { row := exactRootsUptoRow, standIns := [], harness := (true, "73831e6d106c9b1ca7cdc75be08a59c7c0c80ba03ffdc1eeebde2c8e1faa58d5"), looks := false }, kinds := [], alts := [], laidByText := true, laidKinds := [.data, .data, .pinned], laidTests := true, laidLooks := .later }
def ExactRootsUptoCardSaid : Prop := Claim7.holds Tryz.pinned (.plain (OpenSpec.upto exactRootsSpec)) exactRootsUptoCard

/-- THE SECOND FORM's CARD OF 'venturilaw01.ExactPolys'. -/
def exactPolysUptoCard : Claim7 := { stood := { row := exactPolysUptoRow, standIns := [], harness := (true, "73831e6d106c9b1ca7cdc75be08a59c7c0c80ba03ffdc1eeebde2c8e1faa58d5"), looks := false }, kinds := [], alts := [], laidByText := true, laidKinds := [.data, .data, .pinned], laidTests := true, laidLooks := .later }
def ExactPolysUptoCardSaid : Prop := Claim7.holds Tryz.pinned (.plain (OpenSpec.upto exactPolysSpec)) exactPolysUptoCard
end Rows
end Go.Proofs.YtfppimacnhcflaaGreatDoor
