/-
  DERIVED. GIVEN WITH THE SEED: THE CARDS: each row of YtcolecidbalmhaaGreatDoorRows.lean that lists a variable, with what it lists TIED to the program's text (the seventh form; the later family's looks); each row that meets fmt, with fmt's text TOLD by the authors' own Lean function (tested against real Go, not proved from fmt's source: count such statements apart). THE CARD IS WHAT COUNTS. Prove the row's statement (the work); the ties are given (YtcolecidbalmhaaGreatDoorTie.lean); close each card by the builder's one call (the guide's Derived/Test/ToyasCard.lean, 'card_holds'). Laid BY PROGRAM, IN A SANDBOX (cutbox-door.mjs). By AI agents, Wed Nov 11 2026. No macro, syntax, notation, axiom, sorry.
-/
import Derived.Test.YtcolecidbalmhaaGreatDoorRows
import GoSem.ClaimSeven
namespace Go.Proofs.YtcolecidbalmhaaGreatDoor
namespace Rows

/-- THE TIED CARD OF 'laws.FnStores'. -/
def fnStoresCard : Claim7 := { stood := { row := fnStoresRow, standIns := [], harness := (true, "668574a7dadabf70c172f12e3033be7d1bff84c88ae4e1a9cacc115feafe8689"), looks := true }, kinds := [], alts := [], laidByText := true, laidKinds := [.data, .handle, .data, .pinned, .pinned], laidTests := true, laidLooks := .later }
def FnStoresCardSaid : Prop := Claim7.holds Tryz.pinned (.plain (OpenSpec.ofChange fnStoresSpec)) fnStoresCard

/-- THE TIED CARD OF 'laws.FnCrashes'. -/
def fnCrashesCard : Claim7 := { stood := { row := fnCrashesRow, standIns := [], harness := (true, "668574a7dadabf70c172f12e3033be7d1bff84c88ae4e1a9cacc115feafe8689"), looks := true }, kinds := [], alts := [], laidByText := true, laidKinds := [.data, .pinned, .pinned], laidTests := true, laidLooks := .later }
def FnCrashesCardSaid : Prop := Claim7.holds Tryz.pinned (.plain (OpenSpec.ofChange fnCrashesSpec)) fnCrashesCard

/-- THE TIED CARD OF 'laws.FnPacks'. -/
def fnPacksCard : Claim7 := { stood := { row := fnPacksRow, standIns := [], harness := (true, "668574a7dadabf70c172f12e3033be7d1bff84c88ae4e1a9cacc115feafe8689"), looks := true }, kinds := [], alts := [], laidByText := true, laidKinds := [.data, .pinned, .pinned], laidTests := true, laidLooks := .later }
def FnPacksCardSaid : Prop := Claim7.holds Tryz.pinned (.plain (OpenSpec.ofChange fnPacksSpec)) fnPacksCard

/-- THE TIED CARD OF 'laws.FnDecides'. -/
def fnDecidesCard : Claim7 := { stood := { row := fnDecidesRow, standIns := [], harness := (true, "668574a7dadabf70c172f12e3033be7d1bff84c88ae4e1a9cacc115feafe8689"), looks := true }, kinds := [], alts := [], laidByText := true, laidKinds := [.data, .data, .data, .pinned, .pinned], laidTests := true, laidLooks := .later }
def FnDecidesCardSaid : Prop := Claim7.holds Tryz.pinned (.plain (OpenSpec.ofChange fnDecidesSpec)) fnDecidesCard

/-- THE TIED CARD OF 'laws.FnCorrupt'. -/
def fnCorruptCard : Claim7 := { stood := { row := fnCorruptRow, standIns := [], harness := (true, "668574a7dadabf70c172f12e3033be7d1bff84c88ae4e1a9cacc115feafe8689"), looks := true }, kinds := [], alts := [], laidByText := true, laidKinds := [.data, .pinned, .pinned], laidTests := true, laidLooks := .later }
def FnCorruptCardSaid : Prop := Claim7.holds Tryz.pinned (.plain (OpenSpec.ofChange fnCorruptSpec)) fnCorruptCard

/-- THE TIED CARD OF 'laws.FnExactRollStore'. -/
def fnExactRollStoreCard : Claim7 := { stood := { row := fnExactRollStoreRow, standIns := [], harness := (true, "668574a7dadabf70c172f12e3033be7d1bff84c88ae4e1a9cacc115feafe8689"), looks := true }, kinds := [], alts := [], laidByText := true, laidKinds := [.data, .handle, .data, .pinned, .pinned], laidTests := true, laidLooks := .later }
def FnExactRollStoreCardSaid : Prop := Claim7.holds Tryz.pinned (.plain (OpenSpec.ofChange fnExactRollStoreSpec)) fnExactRollStoreCard

/-- THE TIED CARD OF 'laws.FnExactDecide'. -/
def fnExactDecideCard : Claim7 := { stood := { row := fnExactDecideRow, standIns := [], harness := (true, "668574a7dadabf70c172f12e3033be7d1bff84c88ae4e1a9cacc115feafe8689"), looks := true }, kinds := [], alts := [], laidByText := true, laidKinds := [.data, .data, .pinned, .pinned], laidTests := true, laidLooks := .later }
def FnExactDecideCardSaid : Prop := Claim7.holds Tryz.pinned (.plain (OpenSpec.ofChange fnExactDecideSpec)) fnExactDecideCard

/-- THE SECOND FORM's CARD OF 'laws.FnStores'. -/
def fnStoresUptoCard : Claim7 := { stood := { row := fnStoresUptoRow, standIns := [], harness := (true, "668574a7dadabf70c172f12e3033be7d1bff84c88ae4e1a9cacc115feafe8689"), looks := true }, kinds := [], alts := [], laidByText := true, laidKinds := [.data, .handle, .data, .pinned, .pinned], laidTests := true, laidLooks := .later }
def FnStoresUptoCardSaid : Prop := Claim7.holds Tryz.pinned (.plain (OpenSpec.upto fnStoresSpec)) fnStoresUptoCard

/-- THE SECOND FORM's CARD OF 'laws.FnCrashes'. -/
def fnCrashesUptoCard : Claim7 := { stood := { row := fnCrashesUptoRow, standIns := [], harness := (true, "668574a7dadabf70c172f12e3033be7d1bff84c88ae4e1a9cacc115feafe8689"), looks := true }, kinds := [], alts := [], laidByText := true, laidKinds := [.data, .pinned, .pinned], laidTests := true, laidLooks := .later }
def FnCrashesUptoCardSaid : Prop := Claim7.holds Tryz.pinned (.plain (OpenSpec.upto fnCrashesSpec)) fnCrashesUptoCard

/-- THE SECOND FORM's CARD OF 'laws.FnPacks'. -/
def fnPacksUptoCard : Claim7 := { stood := { row := fnPacksUptoRow, standIns := [], harness := (true, "668574a7dadabf70c172f12e3033be7d1bff84c88ae4e1a9cacc115feafe8689"), looks := true }, kinds := [], alts := [], laidByText := true, laidKinds := [.data, .pinned, .pinned], laidTests := true, laidLooks := .later }
def FnPacksUptoCardSaid : Prop := Claim7.holds Tryz.pinned (.plain (OpenSpec.upto fnPacksSpec)) fnPacksUptoCard

/-- THE SECOND FORM's CARD OF 'laws.FnDecides'. -/
def fnDecidesUptoCard : Claim7 := { stood := { row := fnDecidesUptoRow, standIns := [], harness := (true, "668574a7dadabf70c172f12e3033be7d1bff84c88ae4e1a9cacc115feafe8689"), looks := true }, kinds := [], alts := [], laidByText := true, laidKinds := [.data, .data, .data, .pinned, .pinned], laidTests := true, laidLooks := .later }
def FnDecidesUptoCardSaid : Prop := Claim7.holds Tryz.pinned (.plain (OpenSpec.upto fnDecidesSpec)) fnDecidesUptoCard

/-- THE SECOND FORM's CARD OF 'laws.FnCorrupt'. -/
def fnCorruptUptoCard : Claim7 := { stood := { row := fnCorruptUptoRow, standIns := [], harness := (true, "668574a7dadabf70c172f12e3033be7d1bff84c88ae4e1a9cacc115feafe8689"), looks := true }, kinds := [], alts := [], laidByText := true, laidKinds := [.data, .pinned, .pinned], laidTests := true, laidLooks := .later }
def FnCorruptUptoCardSaid : Prop := Claim7.holds Tryz.pinned (.plain (OpenSpec.upto fnCorruptSpec)) fnCorruptUptoCard

/-- THE SECOND FORM's CARD OF 'laws.FnExactRollStore'. -/
def fnExactRollStoreUptoCard : Claim7 := { stood := { row := fnExactRollStoreUptoRow, standIns := [], harness := (true, "668574a7dadabf70c172f12e3033be7d1bff84c88ae4e1a9cacc115feafe8689"), looks := true }, kinds := [], alts := [], laidByText := true, laidKinds := [.data, .handle, .data, .pinned, .pinned], laidTests := true, laidLooks := .later }
def FnExactRollStoreUptoCardSaid : Prop := Claim7.holds Tryz.pinned (.plain (OpenSpec.upto fnExactRollStoreSpec)) fnExactRollStoreUptoCard

/-- THE SECOND FORM's CARD OF 'laws.FnExactDecide'. -/
def fnExactDecideUptoCard : Claim7 := { stood := { row := fnExactDecideUptoRow, standIns := [], harness := (true, "668574a7dadabf70c172f12e3033be7d1bff84c88ae4e1a9cacc115feafe8689"), looks := true }, kinds := [], alts := [], laidByText := true, laidKinds := [.data, .data, .pinned, .pinned], laidTests := true, laidLooks := .later }
def FnExactDecideUptoCardSaid : Prop := Claim7.holds Tryz.pinned (.plain (OpenSpec.upto fnExactDecideSpec)) fnExactDecideUptoCard
end Rows
end Go.Proofs.YtcolecidbalmhaaGreatDoor
