/-
  DERIVED. GIVEN WITH THE SEED: THE CARDS: each row of YtbigkkjnhcpgiaaGreatDoorRows.lean that lists a variable, with what it lists TIED to the program's text (the seventh form; the later family's looks); each row that meets fmt, with fmt's text TOLD by the authors' own Lean function (tested against real Go, not proved from fmt's source: count such statements apart). THE CARD IS WHAT COUNTS. Prove the row's statement (the work); the ties are given (YtbigkkjnhcpgiaaGreatDoorTie.lean); close each card by the builder's one call (the guide's Derived/Test/ToyasCard.lean, 'card_holds'). Laid BY PROGRAM, IN A SANDBOX (cutbox-door.mjs). By AI agents, Wed Nov 11 2026. No macro, syntax, notation, axiom, sorry.
-/
import Derived.Test.YtbigkkjnhcpgiaaGreatDoorRows
import GoSem.ClaimSeven
namespace Go.Proofs.YtbigkkjnhcpgiaaGreatDoor
namespace Rows

/-- THE TIED CARD OF 'venturilaw01.ExactPolys'. -/
def exactPolysCard : Claim7 := { stood := { row := exactPolysRow, standIns := [], harness := (true, "0224a8fa3eb4216e534c19b41ff0319b93026a4856cd153209b617a845308ee8"), looks := false }, kinds := [], alts := [], laidByText := true, laidKinds := [.data, .data, .pinned], laidTests := true, laidLooks := .later }
def ExactPolysCardSaid : Prop := Claim7.holds Tryz.pinned (.plain (OpenSpec.ofChange exactPolysSpec)) exactPolysCard

/-- THE SECOND FORM's CARD OF 'venturilaw01.ExactPolys'. -/
def exactPolysUptoCard : Claim7 := { stood := { row := exactPolysUptoRow, standIns := [], harness := (true, "0224a8fa3eb4216e534c19b41ff0319b93026a4856cd153209b617a845308ee8"), looks := false }, kinds := [], alts := [], laidByText := true, laidKinds := [.data, .data, .pinned], laidTests := true, laidLooks := .later }
def ExactPolysUptoCardSaid : Prop := Claim7.holds Tryz.pinned (.plain (OpenSpec.upto exactPolysSpec)) exactPolysUptoCard
end Rows
end Go.Proofs.YtbigkkjnhcpgiaaGreatDoor
