/-
  DERIVED. GIVEN WITH THE SEED: THE CARDS: each row of YtcicfnlljdnagaaGreatDoorRows.lean that lists a variable, with what it lists TIED to the program's text (the seventh form; the later family's looks); each row that meets fmt, with fmt's text TOLD by the authors' own Lean function (tested against real Go, not proved from fmt's source: count such statements apart). THE CARD IS WHAT COUNTS. Prove the row's statement (the work); the ties are given (YtcicfnlljdnagaaGreatDoorTie.lean); close each card by the builder's one call (the guide's Derived/Test/ToyasCard.lean, 'card_holds'). Laid BY PROGRAM, IN A SANDBOX (cutbox-door.mjs). By AI agents, Wed Nov 11 2026. No macro, syntax, notation, axiom, sorry.
-/
import Derived.Test.YtcicfnlljdnagaaGreatDoorRows
import GoSem.ClaimSeven
namespace Go.Proofs.YtcicfnlljdnagaaGreatDoor
namespace Rows

/-- THE TIED CARD OF 'venturilaw04.ProbeSmaller'. -/
def probeSmallerCard : Claim7 := { stood := { row := probeSmallerRow, standIns := [], harness := (true, "b1e88f16e1afc8945907f0b8cc11c9702551e9f9be60a850bd9a44cc2284735e"), looks := false }, kinds := [], alts := [], laidByText := true, laidKinds := [.data, .data, .pinned], laidTests := true, laidLooks := .later }
def ProbeSmallerCardSaid : Prop := Claim7.holds Tryz.pinned (.plain (OpenSpec.ofChange probeSmallerSpec)) probeSmallerCard

/-- THE SECOND FORM's CARD OF 'venturilaw04.ProbeSmaller'. -/
def probeSmallerUptoCard : Claim7 := { stood := { row := probeSmallerUptoRow, standIns := [], harness := (true, "b1e88f16e1afc8945907f0b8cc11c9702551e9f9be60a850bd9a44cc2284735e"), looks := false }, kinds := [], alts := [], laidByText := true, laidKinds := [.data, .data, .pinned], laidTests := true, laidLooks := .later }
def ProbeSmallerUptoCardSaid : Prop := Claim7.holds Tryz.pinned (.plain (OpenSpec.upto probeSmallerSpec)) probeSmallerUptoCard
end Rows
end Go.Proofs.YtcicfnlljdnagaaGreatDoor
