/-
  DERIVED. GIVEN WITH THE SEED: THE CARDS: each row of YtlcimajjnfbidaaGreatDoorRows.lean that lists a variable, with what it lists TIED to the program's text (the seventh form; the later family's looks); each row that meets fmt, with fmt's text TOLD by the authors' own Lean function (tested against real Go, not proved from fmt's source: count such statements apart). THE CARD IS WHAT COUNTS. Prove the row's statement (the work); the ties are given (YtlcimajjnfbidaaGreatDoorTie.lean); close each card by the builder's one call (the guide's Derived/Test/ToyasCard.lean, 'card_holds'). Laid BY PROGRAM, IN A SANDBOX (cutbox-door.mjs). By AI agents, Wed Nov 11 2026. No macro, syntax, notation, axiom, sorry.
-/
import Derived.Test.YtlcimajjnfbidaaGreatDoorRows
import GoSem.ClaimSeven
namespace Go.Proofs.YtlcimajjnfbidaaGreatDoor
namespace Rows

/-- THE TIED CARD OF 'venturilaw01.ExactSums'. -/
def exactSumsCard : Claim7 := { stood := { row := exactSumsRow, standIns := [], harness := (true, "2493c290370372f2c3a65f5d436c2f64871ff15ae57921c703ee613a75db8aba"), looks := false }, kinds := [], alts := [], laidByText := true, laidKinds := [.data, .data, .pinned], laidTests := true, laidLooks := .later }
def ExactSumsCardSaid : Prop := Claim7.holds Tryz.pinned (.plain (OpenSpec.ofChange exactSumsSpec)) exactSumsCard

/-- THE TIED CARD OF 'venturilaw01.ExactBoxes'. -/
def exactBoxesCard : Claim7 := { stood := { row := exactBoxesRow, standIns := [], harness := (true, "2493c290370372f2c3a65f5d436c2f64871ff15ae57921c703ee613a75db8aba"), looks := false }, kinds := [], alts := [], laidByText := true, laidKinds := [.data, .data, .pinned], laidTests := true, laidLooks := .later }
def ExactBoxesCardSaid : Prop := Claim7.holds Tryz.pinned (.plain (OpenSpec.ofChange exactBoxesSpec)) exactBoxesCard

/-- THE TIED CARD OF 'venturilaw01.ExactPolys'. -/
def exactPolysCard : Claim7 := { stood := { row := exactPolysRow, standIns := [], harness := (true, "2493c290370372f2c3a65f5d436c2f64871ff15ae57921c703ee613a75db8aba"), looks := false }, kinds := [], alts := [], laidByText := true, laidKinds := [.data, .data, .pinned], laidTests := true, laidLooks := .later }
def ExactPolysCardSaid : Prop := Claim7.holds Tryz.pinned (.plain (OpenSpec.ofChange exactPolysSpec)) exactPolysCard

/-- THE TIED CARD OF 'venturilaw01.ExactEncloses'. -/
def exactEnclosesCard : Claim7 := { stood := { row := exactEnclosesRow, standIns := [], harness := (true, "2493c290370372f2c3a65f5d436c2f64871ff15ae57921c703ee613a75db8aba"), looks := false }, kinds := [], alts := [], laidByText := true, laidKinds := [.data, .data, .pinned], laidTests := true, laidLooks := .later }
def ExactEnclosesCardSaid : Prop := Claim7.holds Tryz.pinned (.plain (OpenSpec.ofChange exactEnclosesSpec)) exactEnclosesCard

/-- THE SECOND FORM's CARD OF 'venturilaw01.ExactSums'. -/
def exactSumsUptoCard : Claim7 := { stood := { row := exactSumsUptoRow, standIns := [], harness := (true, "2493c290370372f2c3a65f5d436c2f64871ff15ae57921c703ee613a75db8aba"), looks := false }, kinds := [], alts := [], laidByText := true, laidKinds := [.data, .data, .pinned], laidTests := true, laidLooks := .later }
def ExactSumsUptoCardSaid : Prop := Claim7.holds Tryz.pinned (.plain (OpenSpec.upto exactSumsSpec)) exactSumsUptoCard

/-- THE SECOND FORM's CARD OF 'venturilaw01.ExactBoxes'. -/
def exactBoxesUptoCard : Claim7 := { stood := { row := exactBoxesUptoRow, standIns := [], harness := (true, "2493c290370372f2c3a65f5d436c2f64871ff15ae57921c703ee613a75db8aba"), looks := false }, kinds := [], alts := [], laidByText := true, laidKinds := [.data, .data, .pinned], laidTests := true, laidLooks := .later }
def ExactBoxesUptoCardSaid : Prop := Claim7.holds Tryz.pinned (.plain (OpenSpec.upto exactBoxesSpec)) exactBoxesUptoCard

/-- THE SECOND FORM's CARD OF 'venturilaw01.ExactPolys'. -/
def exactPolysUptoCard : Claim7 := { stood := { row := exactPolysUptoRow, standIns := [], harness := (true, "2493c290370372f2c3a65f5d436c2f64871ff15ae57921c703ee613a75db8aba"), looks := false }, kinds := [], alts := [], laidByText := true, laidKinds := [.data, .data, .pinned], laidTests := true, laidLooks := .later }
def ExactPolysUptoCardSaid : Prop := Claim7.holds Tryz.pinned (.plain (OpenSpec.upto exactPolysSpec)) exactPolysUptoCard

/-- THE SECOND FORM's CARD OF 'venturilaw01.ExactEncloses'. -/
def exactEnclosesUptoCard : Claim7 := { stood := { row := exactEnclosesUptoRow, standIns := [], harness := (true, "2493c290370372f2c3a65f5d436c2f64871ff15ae57921c703ee613a75db8aba"), looks := false }, kinds := [], alts := [], laidByText := true, laidKinds := [.data, .data, .pinned], laidTests := true, laidLooks := .later }
def ExactEnclosesUptoCardSaid : Prop := Claim7.holds Tryz.pinned (.plain (OpenSpec.upto exactEnclosesSpec)) exactEnclosesUptoCard
end Rows
end Go.Proofs.YtlcimajjnfbidaaGreatDoor
