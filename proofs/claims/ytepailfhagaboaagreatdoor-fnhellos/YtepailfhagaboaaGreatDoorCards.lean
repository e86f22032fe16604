/-
  DERIVED. GIVEN WITH THE SEED: THE CARDS: each row of YtepailfhagaboaaGreatDoorRows.lean that lists a variable, with what it lists TIED to the program's text (the seventh form; the later family's looks); each row that meets fmt, with fmt's text TOLD by the authors' own Lean function (tested against real Go, not proved from fmt's source: count such statements apart). THE CARD IS WHAT COUNTS. Prove the row's statement (the work); the ties are given (YtepailfhagaboaaGreatDoorTie.lean); close each card by the builder's one call (the guide's Derived/Test/ToyasCard.lean, 'card_holds'). Laid BY PROGRAM, IN A SANDBOX (cutbox-door.mjs). By AI agents, Wed Nov 11 2026. No macro, syntax, notation, axiom, sorry.
-/
import Derived.Test.YtepailfhagaboaaGreatDoorRows
import GoSem.ClaimSeven
namespace Go.Proofs.YtepailfhagaboaaGreatDoor
namespace Rows

/-- THE TIED CARD OF 'laws.FnHellos'. -/
def fnHellosCard : Claim7 := { stood := { row := fnHellosRow, standIns := [], harness := (true, "8edfcfd9974d918c55e121fb058fb6c626a47d1b3376f706894450d95ab51219"), looks := true }, kinds := [], alts := [], laidByText := true, laidKinds := [.data, .handle, .data, .sentinel, .pinned, .pinned], laidTests := true, laidLooks := .later }
def FnHellosCardSaid : Prop := Claim7.holds Tryz.pinned (.plain (OpenSpec.ofChange fnHellosSpec)) fnHellosCard

/-- THE TIED CARD OF 'laws.FnExactHeardOf'. -/
def fnExactHeardOfCard : Claim7 := { stood := { row := fnExactHeardOfRow, standIns := [], harness := (true, "8edfcfd9974d918c55e121fb058fb6c626a47d1b3376f706894450d95ab51219"), looks := true }, kinds := [], alts := [], laidByText := true, laidKinds := [.handle, .data], laidTests := true, laidLooks := .later }
def FnExactHeardOfCardSaid : Prop := Claim7.holds Tryz.pinned (.plain (OpenSpec.ofChange fnExactHeardOfSpec)) fnExactHeardOfCard

/-- THE SECOND FORM's CARD OF 'laws.FnHellos'. -/
def fnHellosUptoCard : Claim7 := { stood := { row := fnHellosUptoRow, standIns := [], harness := (true, "8edfcfd9974d918c55e121fb058fb6c626a47d1b3376f706894450d95ab51219"), looks := true }, kinds := [], alts := [], laidByText := true, laidKinds := [.data, .handle, .data, .sentinel, .pinned, .pinned], laidTests := true, laidLooks := .later }
def FnHellosUptoCardSaid : Prop := Claim7.holds Tryz.pinned (.plain (OpenSpec.upto fnHellosSpec)) fnHellosUptoCard

/-- THE SECOND FORM's CARD OF 'laws.FnExactHeardOf'. -/
def fnExactHeardOfUptoCard : Claim7 := { stood := { row := fnExactHeardOfUptoRow, standIns := [], harness := (true, "8edfcfd9974d918c55e121fb058fb6c626a47d1b3376f706894450d95ab51219"), looks := true }, kinds := [], alts := [], laidByText := true, laidKinds := [.handle, .data], laidTests := true, laidLooks := .later }
def FnExactHeardOfUptoCardSaid : Prop := Claim7.holds Tryz.pinned (.plain (OpenSpec.upto fnExactHeardOfSpec)) fnExactHeardOfUptoCard
end Rows
end Go.Proofs.YtepailfhagaboaaGreatDoor
