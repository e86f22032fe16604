/-
  DERIVED. GIVEN WITH THE SEED: THE CARDS: each row of YtefgimpodhjdpaaGreatDoorRows.lean that lists a variable, with what it lists TIED to the program's text (the seventh form; the later family's looks); each row that meets fmt, with fmt's text TOLD by the authors' own Lean function (tested against real Go, not proved from fmt's source: count such statements apart). THE CARD IS WHAT COUNTS. Prove the row's statement (the work); the ties are given (YtefgimpodhjdpaaGreatDoorTie.lean); close each card by the builder's one call (the guide's Derived/Test/ToyasCard.lean, 'card_holds'). Laid BY PROGRAM, IN A SANDBOX (cutbox-door.mjs). By AI agents, Wed Nov 11 2026. No macro, syntax, notation, axiom, sorry.
-/
import Derived.Test.YtefgimpodhjdpaaGreatDoorRows
import GoSem.ClaimSeven
namespace Go.Proofs.YtefgimpodhjdpaaGreatDoor
namespace Rows

/-- THE TIED CARD OF 'laws.FnStores'. -/
def fnStoresCard : Claim7 := { stood := { row := fnStoresRow, standIns := [], harness := (true, "c9aaf5f937fe743f1474ba67583279cc7e46630280ba232625aa74ebfd8cea8e"), looks := true }, kinds := [], alts := [], laidByText := true, laidKinds := [.data, .handle, .data, .pinned, .pinned], laidTests := true, laidLooks := .later }
def FnStoresCardSaid : Prop := Claim7.holds Tryz.pinned (.plain (OpenSpec.ofChange fnStoresSpec)) fnStoresCard

/-- THE TIED CARD OF 'laws.FnCrashes'. -/
def fnCrashesCard : Claim7 := { stood := { row := fnCrashesRow, standIns := [], harness := (true, "c9aaf5f937fe743f1474ba67583279cc7e46630280ba232625aa74ebfd8cea8e"), looks := true }, kinds := [], alts := [], laidByText := true, laidKinds := [.data, .pinned, .pinned], laidTests := true, laidLooks := .later }
def FnCrashesCardSaid : Prop := Claim7.holds Tryz.pinned (.plain (OpenSpec.ofChange fnCrashesSpec)) fnCrashesCard

/-- THE TIED CARD OF 'laws.FnPacks'. -/
def fnPacksCard : Claim7 := { stood := { row := fnPacksRow, standIns := [], harness := (true, "c9aaf5f937fe743f1474ba67583279cc7e46630280ba232625aa74ebfd8cea8e"), looks := true }, kinds := [], alts := [], laidByText := true, laidKinds := [.data, .pinned, .pinned], laidTests := true, laidLooks := .later }
def FnPacksCardSaid : Prop := Claim7.holds Tryz.pinned (.plain (OpenSpec.ofChange fnPacksSpec)) fnPacksCard

/-- THE TIED CARD OF 'laws.FnCorrupt'. -/
def fnCorruptCard : Claim7 := { stood := { row := fnCorruptRow, standIns := [], harness := (true, "c9aaf5f937fe743f1474ba67583279cc7e46630280ba232625aa74ebfd8cea8e"), looks := true }, kinds := [], alts := [], laidByText := true, laidKinds := [.data, .pinned, .pinned], laidTests := true, laidLooks := .later }
def FnCorruptCardSaid : Prop := Claim7.holds Tryz.pinned (.plain (OpenSpec.ofChange fnCorruptSpec)) fnCorruptCard

/-- THE TIED CARD OF 'laws.FnExactOpenDisk'. -/
def fnExactOpenDiskCard : Claim7 := { stood := { row := fnExactOpenDiskRow, standIns := [], harness := (true, "c9aaf5f937fe743f1474ba67583279cc7e46630280ba232625aa74ebfd8cea8e"), looks := true }, kinds := [], alts := [], laidByText := true, laidKinds := [.data, .pinned, .pinned], laidTests := true, laidLooks := .later }
def FnExactOpenDiskCardSaid : Prop := Claim7.holds Tryz.pinned (.plain (OpenSpec.ofChange fnExactOpenDiskSpec)) fnExactOpenDiskCard

/-- THE TIED CARD OF 'laws.FnExactStoreFault'. -/
def fnExactStoreFaultCard : Claim7 := { stood := { row := fnExactStoreFaultRow, standIns := [], harness := (true, "c9aaf5f937fe743f1474ba67583279cc7e46630280ba232625aa74ebfd8cea8e"), looks := true }, kinds := [], alts := [], laidByText := true, laidKinds := [.data, .pinned, .pinned], laidTests := true, laidLooks := .later }
def FnExactStoreFaultCardSaid : Prop := Claim7.holds Tryz.pinned (.plain (OpenSpec.ofChange fnExactStoreFaultSpec)) fnExactStoreFaultCard

/-- THE TIED CARD OF 'laws.FnExactNotePin'. -/
def fnExactNotePinCard : Claim7 := { stood := { row := fnExactNotePinRow, standIns := [], harness := (true, "c9aaf5f937fe743f1474ba67583279cc7e46630280ba232625aa74ebfd8cea8e"), looks := true }, kinds := [], alts := [], laidByText := true, laidKinds := [.data, .pinned, .pinned], laidTests := true, laidLooks := .later }
def FnExactNotePinCardSaid : Prop := Claim7.holds Tryz.pinned (.plain (OpenSpec.ofChange fnExactNotePinSpec)) fnExactNotePinCard

/-- THE TIED CARD OF 'laws.FnExactRollStore'. -/
def fnExactRollStoreCard : Claim7 := { stood := { row := fnExactRollStoreRow, standIns := [], harness := (true, "c9aaf5f937fe743f1474ba67583279cc7e46630280ba232625aa74ebfd8cea8e"), looks := true }, kinds := [], alts := [], laidByText := true, laidKinds := [.data, .handle, .data, .pinned, .pinned], laidTests := true, laidLooks := .later }
def FnExactRollStoreCardSaid : Prop := Claim7.holds Tryz.pinned (.plain (OpenSpec.ofChange fnExactRollStoreSpec)) fnExactRollStoreCard

/-- THE TIED CARD OF 'laws.FnExactSyncStore'. -/
def fnExactSyncStoreCard : Claim7 := { stood := { row := fnExactSyncStoreRow, standIns := [], harness := (true, "c9aaf5f937fe743f1474ba67583279cc7e46630280ba232625aa74ebfd8cea8e"), looks := true }, kinds := [], alts := [], laidByText := true, laidKinds := [.data, .pinned, .pinned], laidTests := true, laidLooks := .later }
def FnExactSyncStoreCardSaid : Prop := Claim7.holds Tryz.pinned (.plain (OpenSpec.ofChange fnExactSyncStoreSpec)) fnExactSyncStoreCard

/-- THE TIED CARD OF 'laws.FnExactCrashStore'. -/
def fnExactCrashStoreCard : Claim7 := { stood := { row := fnExactCrashStoreRow, standIns := [], harness := (true, "c9aaf5f937fe743f1474ba67583279cc7e46630280ba232625aa74ebfd8cea8e"), looks := true }, kinds := [], alts := [], laidByText := true, laidKinds := [.data, .pinned, .pinned], laidTests := true, laidLooks := .later }
def FnExactCrashStoreCardSaid : Prop := Claim7.holds Tryz.pinned (.plain (OpenSpec.ofChange fnExactCrashStoreSpec)) fnExactCrashStoreCard

/-- THE TIED CARD OF 'laws.FnExactPackStore'. -/
def fnExactPackStoreCard : Claim7 := { stood := { row := fnExactPackStoreRow, standIns := [], harness := (true, "c9aaf5f937fe743f1474ba67583279cc7e46630280ba232625aa74ebfd8cea8e"), looks := true }, kinds := [], alts := [], laidByText := true, laidKinds := [.data, .pinned, .pinned], laidTests := true, laidLooks := .later }
def FnExactPackStoreCardSaid : Prop := Claim7.holds Tryz.pinned (.plain (OpenSpec.ofChange fnExactPackStoreSpec)) fnExactPackStoreCard

/-- THE SECOND FORM's CARD OF 'laws.FnStores'. -/
def fnStoresUptoCard : Claim7 := { stood := { row := fnStoresUptoRow, standIns := [], harness := (true, "c9aaf5f937fe743f1474ba67583279cc7e46630280ba232625aa74ebfd8cea8e"), looks := true }, kinds := [], alts := [], laidByText := true, laidKinds := [.data, .handle, .data, .pinned, .pinned], laidTests := true, laidLooks := .later }
def FnStoresUptoCardSaid : Prop := Claim7.holds Tryz.pinned (.plain (OpenSpec.upto fnStoresSpec)) fnStoresUptoCard

/-- THE SECOND FORM's CARD OF 'laws.FnCrashes'. -/
def fnCrashesUptoCard : Claim7 := { stood := { row := fnCrashesUptoRow, standIns := [], harness := (true, "c9aaf5f937fe743f1474ba67583279cc7e46630280ba232625aa74ebfd8cea8e"), looks := true }, kinds := [], alts := [], laidByText := true, laidKinds := [.data, .pinned, .pinned], laidTests := true, laidLooks := .later }
def FnCrashesUptoCardSaid : Prop := Claim7.holds Tryz.pinned (.plain (OpenSpec.upto fnCrashesSpec)) fnCrashesUptoCard

/-- THE SECOND FORM's CARD OF 'laws.FnPacks'. -/
def fnPacksUptoCard : Claim7 := { stood := { row := fnPacksUptoRow, standIns := [], harness := (true, "c9aaf5f937fe743f1474ba67583279cc7e46630280ba232625aa74ebfd8cea8e"), looks := true }, kinds := [], alts := [], laidByText := true, laidKinds := [.data, .pinned, .pinned], laidTests := true, laidLooks := .later }
def FnPacksUptoCardSaid : Prop := Claim7.holds Tryz.pinned (.plain (OpenSpec.upto fnPacksSpec)) fnPacksUptoCard

/-- THE SECOND FORM's CARD OF 'laws.FnCorrupt'. -/
def fnCorruptUptoCard : Claim7 := { stood := { row := fnCorruptUptoRow, standIns := [], harness := (true, "c9aaf5f937fe743f1474ba67583279cc7e46630280ba232625aa74ebfd8cea8e"), looks := true }, kinds := [], alts := [], laidByText := true, laidKinds := [.data, .pinned, .pinned], laidTests := true, laidLooks := .later }
def FnCorruptUptoCardSaid : Prop := Claim7.holds Tryz.pinned (.plain (OpenSpec.upto fnCorruptSpec)) fnCorruptUptoCard

/-- THE SECOND FORM's CARD OF 'laws.FnExactOpenDisk'. -/
def fnExactOpenDiskUptoCard : Claim7 := { stood := { row := fnExactOpenDiskUptoRow, standIns := [], harness := (true, "c9aaf5f937fe743f1474ba67583279cc7e46630280ba232625aa74ebfd8cea8e"), looks := true }, kinds := [], alts := [], laidByText := true, laidKinds := [.data, .pinned, .pinned], laidTests := true, laidLooks := .later }
def FnExactOpenDiskUptoCardSaid : Prop := Claim7.holds Tryz.pinned (.plain (OpenSpec.upto fnExactOpenDiskSpec)) fnExactOpenDiskUptoCard

/-- THE SECOND FORM's CARD OF 'laws.FnExactStoreFault'. -/
def fnExactStoreFaultUptoCard : Claim7 := { stood := { row := fnExactStoreFaultUptoRow, standIns := [], harness := (true, "c9aaf5f937fe743f1474ba67583279cc7e46630280ba232625aa74ebfd8cea8e"), looks := true }, kinds := [], alts := [], laidByText := true, laidKinds := [.data, .pinned, .pinned], laidTests := true, laidLooks := .later }
def FnExactStoreFaultUptoCardSaid : Prop := Claim7.holds Tryz.pinned (.plain (OpenSpec.upto fnExactStoreFaultSpec)) fnExactStoreFaultUptoCard

/-- THE SECOND FORM's CARD OF 'laws.FnExactNotePin'. -/
def fnExactNotePinUptoCard : Claim7 := { stood := { row := fnExactNotePinUptoRow, standIns := [], harness := (true, "c9aaf5f937fe743f1474ba67583279cc7e46630280ba232625aa74ebfd8cea8e"), looks := true }, kinds := [], alts := [], laidByText := true, laidKinds := [.data, .pinned, .pinned], laidTests := true, laidLooks := .later }
def FnExactNotePinUptoCardSaid : Prop := Claim7.holds Tryz.pinned (.plain (OpenSpec.upto fnExactNotePinSpec)) fnExactNotePinUptoCard

/-- THE SECOND FORM's CARD OF 'laws.FnExactRollStore'. -/
def fnExactRollStoreUptoCard : Claim7 := { stood := { row := fnExactRollStoreUptoRow, standIns := [], harness := (true, "c9aaf5f937fe743f1474ba67583279cc7e46630280ba232625aa74ebfd8cea8e"), looks := true }, kinds := [], alts := [], laidByText := true, laidKinds := [.data, .handle, .data, .pinned, .pinned], laidTests := true, laidLooks := .later }
def FnExactRollStoreUptoCardSaid : Prop := Claim7.holds Tryz.pinned (.plain (OpenSpec.upto fnExactRollStoreSpec)) fnExactRollStoreUptoCard

/-- THE SECOND FORM's CARD OF 'laws.FnExactSyncStore'. -/
def fnExactSyncStoreUptoCard : Claim7 := { stood := { row := fnExactSyncStoreUptoRow, standIns := [], harness := (true, "c9aaf5f937fe743f1474ba67583279cc7e46630280ba232625aa74ebfd8cea8e"), looks := true }, kinds := [], alts := [], laidByText := true, laidKinds := [.data, .pinned, .pinned], laidTests := true, laidLooks := .later }
def FnExactSyncStoreUptoCardSaid : Prop := Claim7.holds Tryz.pinned (.plain (OpenSpec.upto fnExactSyncStoreSpec)) fnExactSyncStoreUptoCard

/-- THE SECOND FORM's CARD OF 'laws.FnExactCrashStore'. -/
def fnExactCrashStoreUptoCard : Claim7 := { stood := { row := fnExactCrashStoreUptoRow, standIns := [], harness := (true, "c9aaf5f937fe743f1474ba67583279cc7e46630280ba232625aa74ebfd8cea8e"), looks := true }, kinds := [], alts := [], laidByText := true, laidKinds := [.data, .pinned, .pinned], laidTests := true, laidLooks := .later }
def FnExactCrashStoreUptoCardSaid : Prop := Claim7.holds Tryz.pinned (.plain (OpenSpec.upto fnExactCrashStoreSpec)) fnExactCrashStoreUptoCard

/-- THE SECOND FORM's CARD OF 'laws.FnExactPackStore'. -/
def fnExactPackStoreUptoCard : Claim7 := { stood := { row := fnExactPackStoreUptoRow, standIns := [], harness := (true, "c9aaf5f937fe743f1474ba67583279cc7e46630280ba232625aa74ebfd8cea8e"), looks := true }, kinds := [], alts := [], laidByText := true, laidKinds := [.data, .pinned, .pinned], laidTests := true, laidLooks := .later }
def FnExactPackStoreUptoCardSaid : Prop := Claim7.holds Tryz.pinned (.plain (OpenSpec.upto fnExactPackStoreSpec)) fnExactPackStoreUptoCard
end Rows
end Go.Proofs.YtefgimpodhjdpaaGreatDoor
