/-
  DERIVED. GIVEN WITH THE SEED: THE CARDS: each row of YtmdknbgpddnplaaDoorRows.lean that lists a variable, with what it lists TIED to the program's text (the seventh form; the later family's looks); each row that meets fmt, with fmt's text TOLD by the authors' own Lean function (tested against real Go, not proved from fmt's source: count such statements apart). THE CARD IS WHAT COUNTS. Prove the row's statement (the work); the ties are given (YtmdknbgpddnplaaDoorTie.lean); close each card by the builder's one call (the guide's Derived/Test/ToyasCard.lean, 'card_holds'). Laid BY PROGRAM, IN A SANDBOX (cutbox-door.mjs). By AI agents, Wed Nov 11 2026. No macro, syntax, notation, axiom, sorry.
-/
import Derived.Test.YtmdknbgpddnplaaDoorRows
import GoSem.ClaimSeven
namespace Go.Proofs.YtmdknbgpddnplaaDoor
namespace Rows

/-- THE TIED CARD OF 'laws.FnExactRollFault'. -/
def fnExactRollFaultCard : Claim7 := { stood := { row := fnExactRollFaultRow, standIns := [], harness := (true, "110d0598907867820014e45218f70c23dc6a5c8f47d39ab2e42ffa8cc5e29a4a"), looks := true }, kinds := [], alts := [], laidByText := true, laidKinds := [.data, .handle, .pinned, .pinned], laidTests := true, laidLooks := .later }
def FnExactRollFaultCardSaid : Prop := Claim7.holds Tryd.pinned (.plain (OpenSpec.ofChange fnExactRollFaultSpec)) fnExactRollFaultCard

/-- THE TIED CARD OF 'laws.FnExactRollSum'. -/
def fnExactRollSumCard : Claim7 := { stood := { row := fnExactRollSumRow, standIns := [], harness := (true, "110d0598907867820014e45218f70c23dc6a5c8f47d39ab2e42ffa8cc5e29a4a"), looks := true }, kinds := [], alts := [], laidByText := true, laidKinds := [.data, .handle, .data, .pinned, .pinned], laidTests := true, laidLooks := .later }
def FnExactRollSumCardSaid : Prop := Claim7.holds Tryd.pinned (.plain (OpenSpec.ofChange fnExactRollSumSpec)) fnExactRollSumCard

/-- THE SECOND FORM's CARD OF 'laws.FnExactRollFault'. -/
def fnExactRollFaultUptoCard : Claim7 := { stood := { row := fnExactRollFaultUptoRow, standIns := [], harness := (true, "110d0598907867820014e45218f70c23dc6a5c8f47d39ab2e42ffa8cc5e29a4a"), looks := true }, kinds := [], alts := [], laidByText := true, laidKinds := [.data, .handle, .pinned, .pinned], laidTests := true, laidLooks := .later }
def FnExactRollFaultUptoCardSaid : Prop := Claim7.holds Tryd.pinned (.plain (OpenSpec.upto fnExactRollFaultSpec)) fnExactRollFaultUptoCard

/-- THE SECOND FORM's CARD OF 'laws.FnExactRollSum'. -/
def fnExactRollSumUptoCard : Claim7 := { stood := { row := fnExactRollSumUptoRow, standIns := [], harness := (true, "110d0598907867820014e45218f70c23dc6a5c8f47d39ab2e42ffa8cc5e29a4a"), looks := true }, kinds := [], alts := [], laidByText := true, laidKinds := [.data, .handle, .data, .pinned, .pinned], laidTests := true, laidLooks := .later }
def FnExactRollSumUptoCardSaid : Prop := Claim7.holds Tryd.pinned (.plain (OpenSpec.upto fnExactRollSumSpec)) fnExactRollSumUptoCard
end Rows
end Go.Proofs.YtmdknbgpddnplaaDoor
