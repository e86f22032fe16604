/-
  DERIVED. GIVEN WITH THE SEED: THE CARDS: each row of YtmdknbgpddnplaaGreatDoorRows.lean that lists a variable, with what it lists TIED to the program's text (the seventh form; the later family's looks); each row that meets fmt, with fmt's text TOLD by the authors' own Lean function (tested against real Go, not proved from fmt's source: count such statements apart). THE CARD IS WHAT COUNTS. Prove the row's statement (the work); the ties are given (YtmdknbgpddnplaaGreatDoorTie.lean); close each card by the builder's one call (the guide's Derived/Test/ToyasCard.lean, 'card_holds'). Laid BY PROGRAM, IN A SANDBOX (cutbox-door.mjs). By AI agents, Wed Nov 11 2026. No macro, syntax, notation, axiom, sorry.
-/
import Derived.Test.YtmdknbgpddnplaaGreatDoorRows
import GoSem.ClaimSeven
namespace Go.Proofs.YtmdknbgpddnplaaGreatDoor
namespace Rows

/-- THE TIED CARD OF 'laws.FnRolls'. -/
def fnRollsCard : Claim7 := { stood := { row := fnRollsRow, standIns := [], harness := (true, "b3879883997771ed4dc34594f4e3c383d6c8a27598952ab13faa6ac98cbf703f"), looks := true }, kinds := [], alts := [], laidByText := true, laidKinds := [.data, .handle, .data, .pinned, .pinned], laidTests := true, laidLooks := .later }
def FnRollsCardSaid : Prop := Claim7.holds Tryz.pinned (.plain (OpenSpec.ofChange fnRollsSpec)) fnRollsCard

/-- THE TIED CARD OF 'laws.FnChains'. -/
def fnChainsCard : Claim7 := { stood := { row := fnChainsRow, standIns := [], harness := (true, "b3879883997771ed4dc34594f4e3c383d6c8a27598952ab13faa6ac98cbf703f"), looks := true }, kinds := [], alts := [], laidByText := true, laidKinds := [.data, .handle, .data, .pinned, .pinned], laidTests := true, laidLooks := .later }
def FnChainsCardSaid : Prop := Claim7.holds Tryz.pinned (.plain (OpenSpec.ofChange fnChainsSpec)) fnChainsCard

/-- THE TIED CARD OF 'laws.FnExactSignRoll'. -/
def fnExactSignRollCard : Claim7 := { stood := { row := fnExactSignRollRow, standIns := [], harness := (true, "b3879883997771ed4dc34594f4e3c383d6c8a27598952ab13faa6ac98cbf703f"), looks := true }, kinds := [], alts := [], laidByText := true, laidKinds := [.data, .handle, .data, .pinned, .pinned], laidTests := true, laidLooks := .later }
def FnExactSignRollCardSaid : Prop := Claim7.holds Tryz.pinned (.plain (OpenSpec.ofChange fnExactSignRollSpec)) fnExactSignRollCard

/-- THE TIED CARD OF 'laws.FnExactCheckRoll'. -/
def fnExactCheckRollCard : Claim7 := { stood := { row := fnExactCheckRollRow, standIns := [], harness := (true, "b3879883997771ed4dc34594f4e3c383d6c8a27598952ab13faa6ac98cbf703f"), looks := true }, kinds := [], alts := [], laidByText := true, laidKinds := [.data, .handle, .data, .pinned, .pinned], laidTests := true, laidLooks := .later }
def FnExactCheckRollCardSaid : Prop := Claim7.holds Tryz.pinned (.plain (OpenSpec.ofChange fnExactCheckRollSpec)) fnExactCheckRollCard

/-- THE TIED CARD OF 'laws.FnExactApplyRoll'. -/
def fnExactApplyRollCard : Claim7 := { stood := { row := fnExactApplyRollRow, standIns := [], harness := (true, "b3879883997771ed4dc34594f4e3c383d6c8a27598952ab13faa6ac98cbf703f"), looks := true }, kinds := [], alts := [], laidByText := true, laidKinds := [.data, .handle, .data, .pinned, .pinned], laidTests := true, laidLooks := .later }
def FnExactApplyRollCardSaid : Prop := Claim7.holds Tryz.pinned (.plain (OpenSpec.ofChange fnExactApplyRollSpec)) fnExactApplyRollCard

/-- THE TIED CARD OF 'laws.FnExactChainFault'. -/
def fnExactChainFaultCard : Claim7 := { stood := { row := fnExactChainFaultRow, standIns := [], harness := (true, "b3879883997771ed4dc34594f4e3c383d6c8a27598952ab13faa6ac98cbf703f"), looks := true }, kinds := [], alts := [], laidByText := true, laidKinds := [.data, .handle, .data, .pinned, .pinned], laidTests := true, laidLooks := .later }
def FnExactChainFaultCardSaid : Prop := Claim7.holds Tryz.pinned (.plain (OpenSpec.ofChange fnExactChainFaultSpec)) fnExactChainFaultCard

/-- THE SECOND FORM's CARD OF 'laws.FnRolls'. -/
def fnRollsUptoCard : Claim7 := { stood := { row := fnRollsUptoRow, standIns := [], harness := (true, "b3879883997771ed4dc34594f4e3c383d6c8a27598952ab13faa6ac98cbf703f"), looks := true }, kinds := [], alts := [], laidByText := true, laidKinds := [.data, .handle, .data, .pinned, .pinned], laidTests := true, laidLooks := .later }
def FnRollsUptoCardSaid : Prop := Claim7.holds Tryz.pinned (.plain (OpenSpec.upto fnRollsSpec)) fnRollsUptoCard

/-- THE SECOND FORM's CARD OF 'laws.FnChains'. -/
def fnChainsUptoCard : Claim7 := { stood := { row := fnChainsUptoRow, standIns := [], harness := (true, "b3879883997771ed4dc34594f4e3c383d6c8a27598952ab13faa6ac98cbf703f"), looks := true }, kinds := [], alts := [], laidByText := true, laidKinds := [.data, .handle, .data, .pinned, .pinned], laidTests := true, laidLooks := .later }
def FnChainsUptoCardSaid : Prop := Claim7.holds Tryz.pinned (.plain (OpenSpec.upto fnChainsSpec)) fnChainsUptoCard

/-- THE SECOND FORM's CARD OF 'laws.FnExactSignRoll'. -/
def fnExactSignRollUptoCard : Claim7 := { stood := { row := fnExactSignRollUptoRow, standIns := [], harness := (true, "b3879883997771ed4dc34594f4e3c383d6c8a27598952ab13faa6ac98cbf703f"), looks := true }, kinds := [], alts := [], laidByText := true, laidKinds := [.data, .handle, .data, .pinned, .pinned], laidTests := true, laidLooks := .later }
def FnExactSignRollUptoCardSaid : Prop := Claim7.holds Tryz.pinned (.plain (OpenSpec.upto fnExactSignRollSpec)) fnExactSignRollUptoCard

/-- THE SECOND FORM's CARD OF 'laws.FnExactCheckRoll'. -/
def fnExactCheckRollUptoCard : Claim7 := { stood := { row := fnExactCheckRollUptoRow, standIns := [], harness := (true, "b3879883997771ed4dc34594f4e3c383d6c8a27598952ab13faa6ac98cbf703f"), looks := true }, kinds := [], alts := [], laidByText := true, laidKinds := [.data, .handle, .data, .pinned, .pinned], laidTests := true, laidLooks := .later }
def FnExactCheckRollUptoCardSaid : Prop := Claim7.holds Tryz.pinned (.plain (OpenSpec.upto fnExactCheckRollSpec)) fnExactCheckRollUptoCard

/-- THE SECOND FORM's CARD OF 'laws.FnExactApplyRoll'. -/
def fnExactApplyRollUptoCard : Claim7 := { stood := { row := fnExactApplyRollUptoRow, standIns := [], harness := (true, "b3879883997771ed4dc34594f4e3c383d6c8a27598952ab13faa6ac98cbf703f"), looks := true }, kinds := [], alts := [], laidByText := true, laidKinds := [.data, .handle, .data, .pinned, .pinned], laidTests := true, laidLooks := .later }
def FnExactApplyRollUptoCardSaid : Prop := Claim7.holds Tryz.pinned (.plain (OpenSpec.upto fnExactApplyRollSpec)) fnExactApplyRollUptoCard

/-- THE SECOND FORM's CARD OF 'laws.FnExactChainFault'. -/
def fnExactChainFaultUptoCard : Claim7 := { stood := { row := fnExactChainFaultUptoRow, standIns := [], harness := (true, "b3879883997771ed4dc34594f4e3c383d6c8a27598952ab13faa6ac98cbf703f"), looks := true }, kinds := [], alts := [], laidByText := true, laidKinds := [.data, .handle, .data, .pinned, .pinned], laidTests := true, laidLooks := .later }
def FnExactChainFaultUptoCardSaid : Prop := Claim7.holds Tryz.pinned (.plain (OpenSpec.upto fnExactChainFaultSpec)) fnExactChainFaultUptoCard
end Rows
end Go.Proofs.YtmdknbgpddnplaaGreatDoor
