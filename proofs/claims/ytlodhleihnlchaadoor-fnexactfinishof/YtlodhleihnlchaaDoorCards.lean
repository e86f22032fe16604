/-
  DERIVED. GIVEN WITH THE SEED: THE CARDS: each row of YtlodhleihnlchaaDoorRows.lean that lists a variable, with what it lists TIED to the program's text (the seventh form; the later family's looks); each row that meets fmt, with fmt's text TOLD by the authors' own Lean function (tested against real Go, not proved from fmt's source: count such statements apart). THE CARD IS WHAT COUNTS. Prove the row's statement (the work); the ties are given (YtlodhleihnlchaaDoorTie.lean); close each card by the builder's one call (the guide's Derived/Test/ToyasCard.lean, 'card_holds'). Laid BY PROGRAM, IN A SANDBOX (cutbox-door.mjs). By AI agents, Wed Nov 11 2026. No macro, syntax, notation, axiom, sorry.
-/
import Derived.Test.YtlodhleihnlchaaDoorRows
import GoSem.ClaimSeven
namespace Go.Proofs.YtlodhleihnlchaaDoor
namespace Rows

/-- THE TIED CARD OF 'laws.FnExactClientFault'. -/
def fnExactClientFaultCard : Claim7 := { stood := { row := fnExactClientFaultRow, standIns := [], harness := (true, "6c1d023735e1ada4927e941d60873da691695f02ff2accadaf3494d7a8e7f13e"), looks := false }, kinds := [], alts := [], laidByText := true, laidKinds := [.data, .pinned, .pinned], laidTests := true, laidLooks := .later }
def FnExactClientFaultCardSaid : Prop := Claim7.holds Tryd.pinned (.plain (OpenSpec.ofChange fnExactClientFaultSpec)) fnExactClientFaultCard

/-- THE TIED CARD OF 'laws.FnExactStartClient'. -/
def fnExactStartClientCard : Claim7 := { stood := { row := fnExactStartClientRow, standIns := [], harness := (true, "6c1d023735e1ada4927e941d60873da691695f02ff2accadaf3494d7a8e7f13e"), looks := false }, kinds := [], alts := [], laidByText := true, laidKinds := [.data, .pinned, .pinned], laidTests := true, laidLooks := .later }
def FnExactStartClientCardSaid : Prop := Claim7.holds Tryd.pinned (.plain (OpenSpec.ofChange fnExactStartClientSpec)) fnExactStartClientCard

/-- THE TIED CARD OF 'laws.FnExactKeysOf'. -/
def fnExactKeysOfCard : Claim7 := { stood := { row := fnExactKeysOfRow, standIns := [], harness := (true, "6c1d023735e1ada4927e941d60873da691695f02ff2accadaf3494d7a8e7f13e"), looks := false }, kinds := [], alts := [], laidByText := true, laidKinds := [.data], laidTests := true, laidLooks := .later }
def FnExactKeysOfCardSaid : Prop := Claim7.holds Tryd.pinned (.plain (OpenSpec.ofChange fnExactKeysOfSpec)) fnExactKeysOfCard

/-- THE TIED CARD OF 'laws.FnExactFinishOf'. -/
def fnExactFinishOfCard : Claim7 := { stood := { row := fnExactFinishOfRow, standIns := [], harness := (true, "6c1d023735e1ada4927e941d60873da691695f02ff2accadaf3494d7a8e7f13e"), looks := false }, kinds := [], alts := [], laidByText := true, laidKinds := [.data], laidTests := true, laidLooks := .later }
def FnExactFinishOfCardSaid : Prop := Claim7.holds Tryd.pinned (.plain (OpenSpec.ofChange fnExactFinishOfSpec)) fnExactFinishOfCard

/-- THE SECOND FORM's CARD OF 'laws.FnExactClientFault'. -/
def fnExactClientFaultUptoCard : Claim7 := { stood := { row := fnExactClientFaultUptoRow, standIns := [], harness := (true, "6c1d023735e1ada4927e941d60873da691695f02ff2accadaf3494d7a8e7f13e"), looks := false }, kinds := [], alts := [], laidByText := true, laidKinds := [.data, .pinned, .pinned], laidTests := true, laidLooks := .later }
def FnExactClientFaultUptoCardSaid : Prop := Claim7.holds Tryd.pinned (.plain (OpenSpec.upto fnExactClientFaultSpec)) fnExactClientFaultUptoCard

/-- THE SECOND FORM's CARD OF 'laws.FnExactStartClient'. -/
def fnExactStartClientUptoCard : Claim7 := { stood := { row := fnExactStartClientUptoRow, standIns := [], harness := (true, "6c1d023735e1ada4927e941d60873da691695f02ff2accadaf3494d7a8e7f13e"), looks := false }, kinds := [], alts := [], laidByText := true, laidKinds := [.data, .pinned, .pinned], laidTests := true, laidLooks := .later }
def FnExactStartClientUptoCardSaid : Prop := Claim7.holds Tryd.pinned (.plain (OpenSpec.upto fnExactStartClientSpec)) fnExactStartClientUptoCard

/-- THE SECOND FORM's CARD OF 'laws.FnExactKeysOf'. -/
def fnExactKeysOfUptoCard : Claim7 := { stood := { row := fnExactKeysOfUptoRow, standIns := [], harness := (true, "6c1d023735e1ada4927e941d60873da691695f02ff2accadaf3494d7a8e7f13e"), looks := false }, kinds := [], alts := [], laidByText := true, laidKinds := [.data], laidTests := true, laidLooks := .later }
def FnExactKeysOfUptoCardSaid : Prop := Claim7.holds Tryd.pinned (.plain (OpenSpec.upto fnExactKeysOfSpec)) fnExactKeysOfUptoCard

/-- THE SECOND FORM's CARD OF 'laws.FnExactFinishOf'. -/
def fnExactFinishOfUptoCard : Claim7 := { stood := { row := fnExactFinishOfUptoRow, standIns := [], harness := (true, "6c1d023735e1ada4927e941d60873da691695f02ff2accadaf3494d7a8e7f13e"), looks := false }, kinds := [], alts := [], laidByText := true, laidKinds := [.data], laidTests := true, laidLooks := .later }
def FnExactFinishOfUptoCardSaid : Prop := Claim7.holds Tryd.pinned (.plain (OpenSpec.upto fnExactFinishOfSpec)) fnExactFinishOfUptoCard
end Rows
end Go.Proofs.YtlodhleihnlchaaDoor
