/-
  DERIVED. GIVEN WITH THE SEED: THE CARDS: each row of YtdhioalfgogcdaaGreatDoorRows.lean that lists a variable, with what it lists TIED to the program's text (the seventh form; the later family's looks); each row that meets fmt, with fmt's text TOLD by the authors' own Lean function (tested against real Go, not proved from fmt's source: count such statements apart). THE CARD IS WHAT COUNTS. Prove the row's statement (the work); the ties are given (YtdhioalfgogcdaaGreatDoorTie.lean); close each card by the builder's one call (the guide's Derived/Test/ToyasCard.lean, 'card_holds'). Laid BY PROGRAM, IN A SANDBOX (cutbox-door.mjs). By AI agents, Wed Nov 11 2026. No macro, syntax, notation, axiom, sorry.
-/
import Derived.Test.YtdhioalfgogcdaaGreatDoorRows
import GoSem.ClaimSeven
namespace Go.Proofs.YtdhioalfgogcdaaGreatDoor
namespace Rows

/-- THE TIED CARD OF 'copydesklaw03.BlockDecodeMatchesReference'. -/
def blockDecodeMatchesReferenceCard : Claim7 := { stood := { row := blockDecodeMatchesReferenceRow, standIns := [], harness := (true, "742b6139278f836cc4e74de122af4f2bae7779141a04079185573baf5ed9510f"), looks := false }, kinds := [], alts := [], laidByText := true, laidKinds := [.data, .pinned], laidTests := true, laidLooks := .later }
def BlockDecodeMatchesReferenceCardSaid : Prop := Claim7.holds Tryz.pinned (.plain (OpenSpec.ofChange blockDecodeMatchesReferenceSpec)) blockDecodeMatchesReferenceCard

/-- THE SECOND FORM's CARD OF 'copydesklaw03.BlockDecodeMatchesReference'. -/
def blockDecodeMatchesReferenceUptoCard : Claim7 := { stood := { row := blockDecodeMatchesReferenceUptoRow, standIns := [], harness := (true, "742b6139278f836cc4e74de122af4f2bae7779141a04079185573baf5ed9510f"), looks := false }, kinds := [], alts := [], laidByText := true, laidKinds := [.data, .pinned], laidTests := true, laidLooks := .later }
def BlockDecodeMatchesReferenceUptoCardSaid : Prop := Claim7.holds Tryz.pinned (.plain (OpenSpec.upto blockDecodeMatchesReferenceSpec)) blockDecodeMatchesReferenceUptoCard
end Rows
end Go.Proofs.YtdhioalfgogcdaaGreatDoor
