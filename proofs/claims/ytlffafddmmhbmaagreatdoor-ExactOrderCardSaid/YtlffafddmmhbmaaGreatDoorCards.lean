/-
  DERIVED. GIVEN WITH THE SEED: THE CARDS: each row of YtlffafddmmhbmaaGreatDoorRows.lean that lists a variable, with what it lists TIED to the program's text (the seventh form; the later family's looks); each row that meets fmt, with fmt's text TOLD by the authors' own Lean function (tested against real Go, not proved from fmt's source: count such statements apart). THE CARD IS WHAT COUNTS. Prove the row's statement (the work); the ties are given (YtlffafddmmhbmaaGreatDoorTie.lean); close each card by the builder's one call (the guide's Derived/Test/ToyasCard.lean, 'card_holds'). Laid BY PROGRAM, IN A SANDBOX (cutbox-door.mjs). By AI agents, Wed Nov 11 2026. No macro, syntax, notation, axiom, sorry.
-/
import Derived.Test.YtlffafddmmhbmaaGreatDoorRows
import GoSem.ClaimSeven
namespace Go.Proofs.YtlffafddmmhbmaaGreatDoor
namespace Rows

/-- THE TIED CARD OF 'venturilaw01.ExactField'. -/
def exactFieldCard : Claim7 := { stood := { row := exactFieldRow, standIns := [], harness := (true, "60ac24ebc7508682c26a687a85ec7df4971f14a453da4131ccf45835188e76d2"), looks := false }, kinds := [], alts := [], laidByText := true, laidKinds := [.data, .data, .pinned], laidTests := true, laidLooks := .later }
def ExactFieldCardSaid : Prop := Claim7.holds Tryz.pinned (.plain (OpenSpec.ofChange exactFieldSpec)) exactFieldCard

/-- THE TIED CARD OF 'venturilaw01.ExactOrder'. -/
def exactOrderCard : Claim7 := { stood := { row := exactOrderRow, standIns := [], harness := (true, "60ac24ebc7508682c26a687a85ec7df4971f14a453da4131ccf45835188e76d2"), looks := false }, kinds := [], alts := [], laidByText := true, laidKinds := [.data, .data, .pinned], laidTests := true, laidLooks := .later }
def ExactOrderCardSaid : Prop := Claim7.holds Tryz.pinned (.plain (OpenSpec.ofChange exactOrderSpec)) exactOrderCard

/-- THE TIED CARD OF 'venturilaw01.ExactPowerLaws'. -/
def exactPowerLawsCard : Claim7 := { stood := { row := exactPowerLawsRow, standIns := [], harness := (true, "60ac24ebc7508682c26a687a85ec7df4971f14a453da4131ccf45835188e76d2"), looks := false }, kinds := [], alts := [], laidByText := true, laidKinds := [.data, .data, .pinned], laidTests := true, laidLooks := .later }
def ExactPowerLawsCardSaid : Prop := Claim7.holds Tryz.pinned (.plain (OpenSpec.ofChange exactPowerLawsSpec)) exactPowerLawsCard

/-- THE TIED CARD OF 'venturilaw01.ExactHolds'. -/
def exactHoldsCard : Claim7 := { stood := { row := exactHoldsRow, standIns := [], harness := (true, "60ac24ebc7508682c26a687a85ec7df4971f14a453da4131ccf45835188e76d2"), looks := false }, kinds := [], alts := [], laidByText := true, laidKinds := [.data, .data, .pinned], laidTests := true, laidLooks := .later }
def ExactHoldsCardSaid : Prop := Claim7.holds Tryz.pinned (.plain (OpenSpec.ofChange exactHoldsSpec)) exactHoldsCard

/-- THE TIED CARD OF 'venturilaw01.ExactGrows'. -/
def exactGrowsCard : Claim7 := { stood := { row := exactGrowsRow, standIns := [], harness := (true, "60ac24ebc7508682c26a687a85ec7df4971f14a453da4131ccf45835188e76d2"), looks := false }, kinds := [], alts := [], laidByText := true, laidKinds := [.data, .data, .pinned], laidTests := true, laidLooks := .later }
def ExactGrowsCardSaid : Prop := Claim7.holds Tryz.pinned (.plain (OpenSpec.ofChange exactGrowsSpec)) exactGrowsCard

/-- THE TIED CARD OF 'venturilaw01.ExactSquares'. -/
def exactSquaresCard : Claim7 := { stood := { row := exactSquaresRow, standIns := [], harness := (true, "60ac24ebc7508682c26a687a85ec7df4971f14a453da4131ccf45835188e76d2"), looks := false }, kinds := [], alts := [], laidByText := true, laidKinds := [.data, .data, .pinned], laidTests := true, laidLooks := .later }
def ExactSquaresCardSaid : Prop := Claim7.holds Tryz.pinned (.plain (OpenSpec.ofChange exactSquaresSpec)) exactSquaresCard

/-- THE TIED CARD OF 'venturilaw01.ExactEncloses'. -/
def exactEnclosesCard : Claim7 := { stood := { row := exactEnclosesRow, standIns := [], harness := (true, "60ac24ebc7508682c26a687a85ec7df4971f14a453da4131ccf45835188e76d2"), looks := false }, kinds := [], alts := [], laidByText := true, laidKinds := [.data, .data, .pinned], laidTests := true, laidLooks := .later }
def ExactEnclosesCardSaid : Prop := Claim7.holds Tryz.pinned (.plain (OpenSpec.ofChange exactEnclosesSpec)) exactEnclosesCard

/-- THE SECOND FORM's CARD OF 'venturilaw01.ExactField'. -/
def exactFieldUptoCard : Claim7 := { stood := { row := exactFieldUptoRow, standIns := [], harness := (true, "60ac24ebc7508682c26a687a85ec7df4971f14a453da4131ccf45835188e76d2"), looks := false }, kinds := [], alts := [], laidByText := true, laidKinds := [.data, .data, .pinned], laidTests := true, laidLooks := .later }
def ExactFieldUptoCardSaid : Prop := Claim7.holds Tryz.pinned (.plain (OpenSpec.upto exactFieldSpec)) exactFieldUptoCard

/-- THE SECOND FORM's CARD OF 'venturilaw01.ExactOrder'. -/
def exactOrderUptoCard : Claim7 := { stood := { row := exactOrderUptoRow, standIns := [], harness := (true, "60ac24ebc7508682c26a687a85ec7df4971f14a453da4131ccf45835188e76d2"), looks := false }, kinds := [], alts := [], laidByText := true, laidKinds := [.data, .data, .pinned], laidTests := true, laidLooks := .later }
def ExactOrderUptoCardSaid : Prop := Claim7.holds Tryz.pinned (.plain (OpenSpec.upto exactOrderSpec)) exactOrderUptoCard

/-- THE SECOND FORM's CARD OF 'venturilaw01.ExactPowerLaws'. -/
def exactPowerLawsUptoCard : Claim7 := { stood := { row := exactPowerLawsUptoRow, standIns := [], harness := (true, "60ac24ebc7508682c26a687a85ec7df4971f14a453da4131ccf45835188e76d2"), looks := false }, kinds := [], alts := [], laidByText := true, laidKinds := [.data, .data, .pinned], laidTests := true, laidLooks := .later }
def ExactPowerLawsUptoCardSaid : Prop := Claim7.holds Tryz.pinned (.plain (OpenSpec.upto exactPowerLawsSpec)) exactPowerLawsUptoCard

/-- THE SECOND FORM's CARD OF 'venturilaw01.ExactHolds'. -/
def exactHoldsUptoCard : Claim7 := { stood := { row := exactHoldsUptoRow, standIns := [], harness := (true, "60ac24ebc7508682c26a687a85ec7df4971f14a453da4131ccf45835188e76d2"), looks := false }, kinds := [], alts := [], laidByText := true, laidKinds := [.data, .data, .pinned], laidTests := true, laidLooks := .later }
def ExactHoldsUptoCardSaid : Prop := Claim7.holds Tryz.pinned (.plain (OpenSpec.upto exactHoldsSpec)) exactHoldsUptoCard

/-- THE SECOND FORM's CARD OF 'venturilaw01.ExactGrows'. -/
def exactGrowsUptoCard : Claim7 := { stood := { row := exactGrowsUptoRow, standIns := [], harness := (true, "60ac24ebc7508682c26a687a85ec7df4971f14a453da4131ccf45835188e76d2"), looks := false }, kinds := [], alts := [], laidByText := true, laidKinds := [.data, .data, .pinned], laidTests := true, laidLooks := .later }
def ExactGrowsUptoCardSaid : Prop := Claim7.holds Tryz.pinned (.plain (OpenSpec.upto exactGrowsSpec)) exactGrowsUptoCard

/-- THE SECOND FORM's CARD OF 'venturilaw01.ExactSquares'. -/
def exactSquaresUptoCard : Claim7 := { stood := { row := exactSquaresUptoRow, standIns := [], harness := (true, "60ac24ebc7508682c26a687a85ec7df4971f14a453da4131ccf45835188e76d2"), looks := false }, kinds := [], alts := [], laidByText := true, laidKinds := [.data, .data, .pinned], laidTests := true, laidLooks := .later }
def ExactSquaresUptoCardSaid : Prop := Claim7.holds Tryz.pinned (.plain (OpenSpec.upto exactSquaresSpec)) exactSquaresUptoCard

/-- THE SECOND FORM's CARD OF 'venturilaw01.ExactEncloses'. -/
def exactEnclosesUptoCard : Claim7 := { stood := { row := exactEnclosesUptoRow, standIns := [], harness := (true, "60ac24ebc7508682c26a687a85ec7df4971f14a453da4131ccf45835188e76d2"), looks := false }, kinds := [], alts := [], laidByText := true, laidKinds := [.data, .data, .pinned], laidTests := true, laidLooks := .later }
def ExactEnclosesUptoCardSaid : Prop := Claim7.holds Tryz.pinned (.plain (OpenSpec.upto exactEnclosesSpec)) exactEnclosesUptoCard
end Rows
end Go.Proofs.YtlffafddmmhbmaaGreatDoor
