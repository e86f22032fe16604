/-
  DERIVED. GIVEN WITH THE SEED: THE CARDS: each row of YtepailfhagaboaaDoorRows.lean that lists a variable, with what it lists TIED to the program's text (the seventh form; the later family's looks); each row that meets fmt, with fmt's text TOLD by the authors' own Lean function (tested against real Go, not proved from fmt's source: count such statements apart). THE CARD IS WHAT COUNTS. Prove the row's statement (the work); the ties are given (YtepailfhagaboaaDoorTie.lean); close each card by the builder's one call (the guide's Derived/Test/ToyasCard.lean, 'card_holds'). Laid BY PROGRAM, IN A SANDBOX (cutbox-door.mjs). By AI agents, Wed Nov 11 2026. No macro, syntax, notation, axiom, sorry.
-/
import Derived.Test.YtepailfhagaboaaDoorRows
import GoSem.ClaimSeven
namespace Go.Proofs.YtepailfhagaboaaDoor
namespace Rows

/-- THE TIED CARD OF 'laws.FnExactHelloFault'. -/
def fnExactHelloFaultCard : Claim7 := { stood := { row := fnExactHelloFaultRow, standIns := [], harness := (true, "23f971558931a3761a5fe909b3f14b177985bc2c28a4e82e70b804e48353d1ed"), looks := true }, kinds := [], alts := [], laidByText := true, laidKinds := [.data, .pinned, .pinned], laidTests := true, laidLooks := .later }
def FnExactHelloFaultCardSaid : Prop := Claim7.holds Tryd.pinned (.plain (OpenSpec.ofChange fnExactHelloFaultSpec)) fnExactHelloFaultCard

/-- THE TIED CARD OF 'laws.FnExactPackHello'. -/
def fnExactPackHelloCard : Claim7 := { stood := { row := fnExactPackHelloRow, standIns := [], harness := (true, "23f971558931a3761a5fe909b3f14b177985bc2c28a4e82e70b804e48353d1ed"), looks := true }, kinds := [], alts := [], laidByText := true, laidKinds := [.handle], laidTests := true, laidLooks := .later }
def FnExactPackHelloCardSaid : Prop := Claim7.holds Tryd.pinned (.plain (OpenSpec.ofChange fnExactPackHelloSpec)) fnExactPackHelloCard

/-- THE TIED CARD OF 'laws.FnExactReadHello'. -/
def fnExactReadHelloCard : Claim7 := { stood := { row := fnExactReadHelloRow, standIns := [], harness := (true, "23f971558931a3761a5fe909b3f14b177985bc2c28a4e82e70b804e48353d1ed"), looks := true }, kinds := [], alts := [], laidByText := true, laidKinds := [.sentinel], laidTests := true, laidLooks := .later }
def FnExactReadHelloCardSaid : Prop := Claim7.holds Tryd.pinned (.plain (OpenSpec.ofChange fnExactReadHelloSpec)) fnExactReadHelloCard

/-- THE TIED CARD OF 'laws.FnExactReplyFault'. -/
def fnExactReplyFaultCard : Claim7 := { stood := { row := fnExactReplyFaultRow, standIns := [], harness := (true, "23f971558931a3761a5fe909b3f14b177985bc2c28a4e82e70b804e48353d1ed"), looks := true }, kinds := [], alts := [], laidByText := true, laidKinds := [.handle], laidTests := true, laidLooks := .later }
def FnExactReplyFaultCardSaid : Prop := Claim7.holds Tryd.pinned (.plain (OpenSpec.ofChange fnExactReplyFaultSpec)) fnExactReplyFaultCard

/-- THE TIED CARD OF 'laws.FnExactPackReply'. -/
def fnExactPackReplyCard : Claim7 := { stood := { row := fnExactPackReplyRow, standIns := [], harness := (true, "23f971558931a3761a5fe909b3f14b177985bc2c28a4e82e70b804e48353d1ed"), looks := true }, kinds := [], alts := [], laidByText := true, laidKinds := [.handle], laidTests := true, laidLooks := .later }
def FnExactPackReplyCardSaid : Prop := Claim7.holds Tryd.pinned (.plain (OpenSpec.ofChange fnExactPackReplySpec)) fnExactPackReplyCard

/-- THE TIED CARD OF 'laws.FnExactReadReply'. -/
def fnExactReadReplyCard : Claim7 := { stood := { row := fnExactReadReplyRow, standIns := [], harness := (true, "23f971558931a3761a5fe909b3f14b177985bc2c28a4e82e70b804e48353d1ed"), looks := true }, kinds := [], alts := [], laidByText := true, laidKinds := [.sentinel], laidTests := true, laidLooks := .later }
def FnExactReadReplyCardSaid : Prop := Claim7.holds Tryd.pinned (.plain (OpenSpec.ofChange fnExactReadReplySpec)) fnExactReadReplyCard

/-- THE SECOND FORM's CARD OF 'laws.FnExactHelloFault'. -/
def fnExactHelloFaultUptoCard : Claim7 := { stood := { row := fnExactHelloFaultUptoRow, standIns := [], harness := (true, "23f971558931a3761a5fe909b3f14b177985bc2c28a4e82e70b804e48353d1ed"), looks := true }, kinds := [], alts := [], laidByText := true, laidKinds := [.data, .pinned, .pinned], laidTests := true, laidLooks := .later }
def FnExactHelloFaultUptoCardSaid : Prop := Claim7.holds Tryd.pinned (.plain (OpenSpec.upto fnExactHelloFaultSpec)) fnExactHelloFaultUptoCard

/-- THE SECOND FORM's CARD OF 'laws.FnExactPackHello'. -/
def fnExactPackHelloUptoCard : Claim7 := { stood := { row := fnExactPackHelloUptoRow, standIns := [], harness := (true, "23f971558931a3761a5fe909b3f14b177985bc2c28a4e82e70b804e48353d1ed"), looks := true }, kinds := [], alts := [], laidByText := true, laidKinds := [.handle], laidTests := true, laidLooks := .later }
def FnExactPackHelloUptoCardSaid : Prop := Claim7.holds Tryd.pinned (.plain (OpenSpec.upto fnExactPackHelloSpec)) fnExactPackHelloUptoCard

/-- THE SECOND FORM's CARD OF 'laws.FnExactReadHello'. -/
def fnExactReadHelloUptoCard : Claim7 := { stood := { row := fnExactReadHelloUptoRow, standIns := [], harness := (true, "23f971558931a3761a5fe909b3f14b177985bc2c28a4e82e70b804e48353d1ed"), looks := true }, kinds := [], alts := [], laidByText := true, laidKinds := [.sentinel], laidTests := true, laidLooks := .later }
def FnExactReadHelloUptoCardSaid : Prop := Claim7.holds Tryd.pinned (.plain (OpenSpec.upto fnExactReadHelloSpec)) fnExactReadHelloUptoCard

/-- THE SECOND FORM's CARD OF 'laws.FnExactReplyFault'. -/
def fnExactReplyFaultUptoCard : Claim7 := { stood := { row := fnExactReplyFaultUptoRow, standIns := [], harness := (true, "23f971558931a3761a5fe909b3f14b177985bc2c28a4e82e70b804e48353d1ed"), looks := true }, kinds := [], alts := [], laidByText := true, laidKinds := [.handle], laidTests := true, laidLooks := .later }
def FnExactReplyFaultUptoCardSaid : Prop := Claim7.holds Tryd.pinned (.plain (OpenSpec.upto fnExactReplyFaultSpec)) fnExactReplyFaultUptoCard

/-- THE SECOND FORM's CARD OF 'laws.FnExactPackReply'. -/
def fnExactPackReplyUptoCard : Claim7 := { stood := { row := fnExactPackReplyUptoRow, standIns := [], harness := (true, "23f971558931a3761a5fe909b3f14b177985bc2c28a4e82e70b804e48353d1ed"), looks := true }, kinds := [], alts := [], laidByText := true, laidKinds := [.handle], laidTests := true, laidLooks := .later }
def FnExactPackReplyUptoCardSaid : Prop := Claim7.holds Tryd.pinned (.plain (OpenSpec.upto fnExactPackReplySpec)) fnExactPackReplyUptoCard

/-- THE SECOND FORM's CARD OF 'laws.FnExactReadReply'. -/
def fnExactReadReplyUptoCard : Claim7 := { stood := { row := fnExactReadReplyUptoRow, standIns := [], harness := (true, "23f971558931a3761a5fe909b3f14b177985bc2c28a4e82e70b804e48353d1ed"), looks := true }, kinds := [], alts := [], laidByText := true, laidKinds := [.sentinel], laidTests := true, laidLooks := .later }
def FnExactReadReplyUptoCardSaid : Prop := Claim7.holds Tryd.pinned (.plain (OpenSpec.upto fnExactReadReplySpec)) fnExactReadReplyUptoCard
end Rows
end Go.Proofs.YtepailfhagaboaaDoor
