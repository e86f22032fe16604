/-
  DERIVED. GIVEN WITH THE SEED: THE CARDS: each row of YtlodhleihnlchaaGreatDoorRows.lean that lists a variable, with what it lists TIED to the program's text (the seventh form; the later family's looks); each row that meets fmt, with fmt's text TOLD by the authors' own Lean function (tested against real Go, not proved from fmt's source: count such statements apart). THE CARD IS WHAT COUNTS. Prove the row's statement (the work); the ties are given (YtlodhleihnlchaaGreatDoorTie.lean); close each card by the builder's one call (the guide's Derived/Test/ToyasCard.lean, 'card_holds'). Laid BY PROGRAM, IN A SANDBOX (cutbox-door.mjs). By AI agents, Wed Nov 11 2026. No macro, syntax, notation, axiom, sorry.
-/
import Derived.Test.YtlodhleihnlchaaGreatDoorRows
import GoSem.ClaimSeven
namespace Go.Proofs.YtlodhleihnlchaaGreatDoor
namespace Rows

/-- THE TIED CARD OF 'laws.FnHellos'. -/
def fnHellosCard : Claim7 := { stood := { row := fnHellosRow, standIns := [], harness := (true, "25a902188381d1951b8457de009a00a0260b5a31ad30fdede903b764ca4a4a80"), looks := true }, kinds := [], alts := [], laidByText := true, laidKinds := [.data, .handle, .data, .sentinel, .pinned, .pinned], laidTests := true, laidLooks := .later }
def FnHellosCardSaid : Prop := Claim7.holds Tryz.pinned (.plain (OpenSpec.ofChange fnHellosSpec)) fnHellosCard

/-- THE TIED CARD OF 'laws.FnStores'. -/
def fnStoresCard : Claim7 := { stood := { row := fnStoresRow, standIns := [], harness := (true, "25a902188381d1951b8457de009a00a0260b5a31ad30fdede903b764ca4a4a80"), looks := true }, kinds := [], alts := [], laidByText := true, laidKinds := [.data, .handle, .data, .pinned, .pinned], laidTests := true, laidLooks := .later }
def FnStoresCardSaid : Prop := Claim7.holds Tryz.pinned (.plain (OpenSpec.ofChange fnStoresSpec)) fnStoresCard

/-- THE TIED CARD OF 'laws.FnDecides'. -/
def fnDecidesCard : Claim7 := { stood := { row := fnDecidesRow, standIns := [], harness := (true, "25a902188381d1951b8457de009a00a0260b5a31ad30fdede903b764ca4a4a80"), looks := true }, kinds := [], alts := [], laidByText := true, laidKinds := [.data, .data, .data, .pinned, .pinned], laidTests := true, laidLooks := .later }
def FnDecidesCardSaid : Prop := Claim7.holds Tryz.pinned (.plain (OpenSpec.ofChange fnDecidesSpec)) fnDecidesCard

/-- THE TIED CARD OF 'laws.FnHandshakes'. -/
def fnHandshakesCard : Claim7 := { stood := { row := fnHandshakesRow, standIns := [], harness := (true, "25a902188381d1951b8457de009a00a0260b5a31ad30fdede903b764ca4a4a80"), looks := true }, kinds := [], alts := [], laidByText := true, laidKinds := [.data, .handle, .data, .pinned, .pinned], laidTests := true, laidLooks := .later }
def FnHandshakesCardSaid : Prop := Claim7.holds Tryz.pinned (.plain (OpenSpec.ofChange fnHandshakesSpec)) fnHandshakesCard

/-- THE TIED CARD OF 'laws.FnTakes'. -/
def fnTakesCard : Claim7 := { stood := { row := fnTakesRow, standIns := [], harness := (true, "25a902188381d1951b8457de009a00a0260b5a31ad30fdede903b764ca4a4a80"), looks := true }, kinds := [], alts := [], laidByText := true, laidKinds := [.data, .handle, .data, .pinned, .pinned], laidTests := true, laidLooks := .later }
def FnTakesCardSaid : Prop := Claim7.holds Tryz.pinned (.plain (OpenSpec.ofChange fnTakesSpec)) fnTakesCard

/-- THE TIED CARD OF 'laws.FnExactHeardOf'. -/
def fnExactHeardOfCard : Claim7 := { stood := { row := fnExactHeardOfRow, standIns := [], harness := (true, "25a902188381d1951b8457de009a00a0260b5a31ad30fdede903b764ca4a4a80"), looks := true }, kinds := [], alts := [], laidByText := true, laidKinds := [.data, .handle, .data, .pinned, .pinned], laidTests := true, laidLooks := .later }
def FnExactHeardOfCardSaid : Prop := Claim7.holds Tryz.pinned (.plain (OpenSpec.ofChange fnExactHeardOfSpec)) fnExactHeardOfCard

/-- THE TIED CARD OF 'laws.FnExactAnswerHello'. -/
def fnExactAnswerHelloCard : Claim7 := { stood := { row := fnExactAnswerHelloRow, standIns := [], harness := (true, "25a902188381d1951b8457de009a00a0260b5a31ad30fdede903b764ca4a4a80"), looks := true }, kinds := [], alts := [], laidByText := true, laidKinds := [.data, .handle, .data, .pinned, .pinned], laidTests := true, laidLooks := .later }
def FnExactAnswerHelloCardSaid : Prop := Claim7.holds Tryz.pinned (.plain (OpenSpec.ofChange fnExactAnswerHelloSpec)) fnExactAnswerHelloCard

/-- THE TIED CARD OF 'laws.FnExactTakeReply'. -/
def fnExactTakeReplyCard : Claim7 := { stood := { row := fnExactTakeReplyRow, standIns := [], harness := (true, "25a902188381d1951b8457de009a00a0260b5a31ad30fdede903b764ca4a4a80"), looks := true }, kinds := [], alts := [], laidByText := true, laidKinds := [.data, .handle, .data, .pinned, .pinned], laidTests := true, laidLooks := .later }
def FnExactTakeReplyCardSaid : Prop := Claim7.holds Tryz.pinned (.plain (OpenSpec.ofChange fnExactTakeReplySpec)) fnExactTakeReplyCard

/-- THE SECOND FORM's CARD OF 'laws.FnHellos'. -/
def fnHellosUptoCard : Claim7 := { stood := { row := fnHellosUptoRow, standIns := [], harness := (true, "25a902188381d1951b8457de009a00a0260b5a31ad30fdede903b764ca4a4a80"), looks := true }, kinds := [], alts := [], laidByText := true, laidKinds := [.data, .handle, .data, .sentinel, .pinned, .pinned], laidTests := true, laidLooks := .later }
def FnHellosUptoCardSaid : Prop := Claim7.holds Tryz.pinned (.plain (OpenSpec.upto fnHellosSpec)) fnHellosUptoCard

/-- THE SECOND FORM's CARD OF 'laws.FnStores'. -/
def fnStoresUptoCard : Claim7 := { stood := { row := fnStoresUptoRow, standIns := [], harness := (true, "25a902188381d1951b8457de009a00a0260b5a31ad30fdede903b764ca4a4a80"), looks := true }, kinds := [], alts := [], laidByText := true, laidKinds := [.data, .handle, .data, .pinned, .pinned], laidTests := true, laidLooks := .later }
def FnStoresUptoCardSaid : Prop := Claim7.holds Tryz.pinned (.plain (OpenSpec.upto fnStoresSpec)) fnStoresUptoCard

/-- THE SECOND FORM's CARD OF 'laws.FnDecides'. -/
def fnDecidesUptoCard : Claim7 := { stood := { row := fnDecidesUptoRow, standIns := [], harness := (true, "25a902188381d1951b8457de009a00a0260b5a31ad30fdede903b764ca4a4a80"), looks := true }, kinds := [], alts := [], laidByText := true, laidKinds := [.data, .data, .data, .pinned, .pinned], laidTests := true, laidLooks := .later }
def FnDecidesUptoCardSaid : Prop := Claim7.holds Tryz.pinned (.plain (OpenSpec.upto fnDecidesSpec)) fnDecidesUptoCard

/-- THE SECOND FORM's CARD OF 'laws.FnHandshakes'. -/
def fnHandshakesUptoCard : Claim7 := { stood := { row := fnHandshakesUptoRow, standIns := [], harness := (true, "25a902188381d1951b8457de009a00a0260b5a31ad30fdede903b764ca4a4a80"), looks := true }, kinds := [], alts := [], laidByText := true, laidKinds := [.data, .handle, .data, .pinned, .pinned], laidTests := true, laidLooks := .later }
def FnHandshakesUptoCardSaid : Prop := Claim7.holds Tryz.pinned (.plain (OpenSpec.upto fnHandshakesSpec)) fnHandshakesUptoCard

/-- THE SECOND FORM's CARD OF 'laws.FnTakes'. -/
def fnTakesUptoCard : Claim7 := { stood := { row := fnTakesUptoRow, standIns := [], harness := (true, "25a902188381d1951b8457de009a00a0260b5a31ad30fdede903b764ca4a4a80"), looks := true }, kinds := [], alts := [], laidByText := true, laidKinds := [.data, .handle, .data, .pinned, .pinned], laidTests := true, laidLooks := .later }
def FnTakesUptoCardSaid : Prop := Claim7.holds Tryz.pinned (.plain (OpenSpec.upto fnTakesSpec)) fnTakesUptoCard

/-- THE SECOND FORM's CARD OF 'laws.FnExactHeardOf'. -/
def fnExactHeardOfUptoCard : Claim7 := { stood := { row := fnExactHeardOfUptoRow, standIns := [], harness := (true, "25a902188381d1951b8457de009a00a0260b5a31ad30fdede903b764ca4a4a80"), looks := true }, kinds := [], alts := [], laidByText := true, laidKinds := [.data, .handle, .data, .pinned, .pinned], laidTests := true, laidLooks := .later }
def FnExactHeardOfUptoCardSaid : Prop := Claim7.holds Tryz.pinned (.plain (OpenSpec.upto fnExactHeardOfSpec)) fnExactHeardOfUptoCard

/-- THE SECOND FORM's CARD OF 'laws.FnExactAnswerHello'. -/
def fnExactAnswerHelloUptoCard : Claim7 := { stood := { row := fnExactAnswerHelloUptoRow, standIns := [], harness := (true, "25a902188381d1951b8457de009a00a0260b5a31ad30fdede903b764ca4a4a80"), looks := true }, kinds := [], alts := [], laidByText := true, laidKinds := [.data, .handle, .data, .pinned, .pinned], laidTests := true, laidLooks := .later }
def FnExactAnswerHelloUptoCardSaid : Prop := Claim7.holds Tryz.pinned (.plain (OpenSpec.upto fnExactAnswerHelloSpec)) fnExactAnswerHelloUptoCard

/-- THE SECOND FORM's CARD OF 'laws.FnExactTakeReply'. -/
def fnExactTakeReplyUptoCard : Claim7 := { stood := { row := fnExactTakeReplyUptoRow, standIns := [], harness := (true, "25a902188381d1951b8457de009a00a0260b5a31ad30fdede903b764ca4a4a80"), looks := true }, kinds := [], alts := [], laidByText := true, laidKinds := [.data, .handle, .data, .pinned, .pinned], laidTests := true, laidLooks := .later }
def FnExactTakeReplyUptoCardSaid : Prop := Claim7.holds Tryz.pinned (.plain (OpenSpec.upto fnExactTakeReplySpec)) fnExactTakeReplyUptoCard
end Rows
end Go.Proofs.YtlodhleihnlchaaGreatDoor
