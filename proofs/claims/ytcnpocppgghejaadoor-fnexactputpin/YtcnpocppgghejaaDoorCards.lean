/-
  DERIVED. GIVEN WITH THE SEED: THE CARDS: each row of YtcnpocppgghejaaDoorRows.lean that lists a variable, with what it lists TIED to the program's text (the seventh form; the later family's looks); each row that meets fmt, with fmt's text TOLD by the authors' own Lean function (tested against real Go, not proved from fmt's source: count such statements apart). THE CARD IS WHAT COUNTS. Prove the row's statement (the work); the ties are given (YtcnpocppgghejaaDoorTie.lean); close each card by the builder's one call (the guide's Derived/Test/ToyasCard.lean, 'card_holds'). Laid BY PROGRAM, IN A SANDBOX (cutbox-door.mjs). By AI agents, Wed Nov 11 2026. No macro, syntax, notation, axiom, sorry.
-/
import Derived.Test.YtcnpocppgghejaaDoorRows
import GoSem.ClaimSeven
namespace Go.Proofs.YtcnpocppgghejaaDoor
namespace Rows

/-- THE TIED CARD OF 'laws.FnExactPinFault'. -/
def fnExactPinFaultCard : Claim7 := { stood := { row := fnExactPinFaultRow, standIns := [], harness := (true, "c8aadefe625ea2daf0256d8dcd8b5b0d2e8045e8f2f7016ec300cf31a3e72ab5"), looks := false }, kinds := [], alts := [], laidByText := true, laidKinds := [.data, .pinned, .pinned], laidTests := true, laidLooks := .later }
def FnExactPinFaultCardSaid : Prop := Claim7.holds Tryd.pinned (.plain (OpenSpec.ofChange fnExactPinFaultSpec)) fnExactPinFaultCard

/-- THE TIED CARD OF 'laws.FnExactPinsFault'. -/
def fnExactPinsFaultCard : Claim7 := { stood := { row := fnExactPinsFaultRow, standIns := [], harness := (true, "c8aadefe625ea2daf0256d8dcd8b5b0d2e8045e8f2f7016ec300cf31a3e72ab5"), looks := false }, kinds := [], alts := [], laidByText := true, laidKinds := [.data, .pinned, .pinned], laidTests := true, laidLooks := .later }
def FnExactPinsFaultCardSaid : Prop := Claim7.holds Tryd.pinned (.plain (OpenSpec.ofChange fnExactPinsFaultSpec)) fnExactPinsFaultCard

/-- THE TIED CARD OF 'laws.FnExactFindPin'. -/
def fnExactFindPinCard : Claim7 := { stood := { row := fnExactFindPinRow, standIns := [], harness := (true, "c8aadefe625ea2daf0256d8dcd8b5b0d2e8045e8f2f7016ec300cf31a3e72ab5"), looks := false }, kinds := [], alts := [], laidByText := true, laidKinds := [.data, .pinned, .pinned], laidTests := true, laidLooks := .later }
def FnExactFindPinCardSaid : Prop := Claim7.holds Tryd.pinned (.plain (OpenSpec.ofChange fnExactFindPinSpec)) fnExactFindPinCard

/-- THE TIED CARD OF 'laws.FnExactPutPin'. -/
def fnExactPutPinCard : Claim7 := { stood := { row := fnExactPutPinRow, standIns := [], harness := (true, "c8aadefe625ea2daf0256d8dcd8b5b0d2e8045e8f2f7016ec300cf31a3e72ab5"), looks := false }, kinds := [], alts := [], laidByText := true, laidKinds := [.data, .pinned, .pinned], laidTests := true, laidLooks := .later }
def FnExactPutPinCardSaid : Prop := Claim7.holds Tryd.pinned (.plain (OpenSpec.ofChange fnExactPutPinSpec)) fnExactPutPinCard

/-- THE TIED CARD OF 'laws.FnExactIsLive'. -/
def fnExactIsLiveCard : Claim7 := { stood := { row := fnExactIsLiveRow, standIns := [], harness := (true, "c8aadefe625ea2daf0256d8dcd8b5b0d2e8045e8f2f7016ec300cf31a3e72ab5"), looks := false }, kinds := [], alts := [], laidByText := true, laidKinds := [.data, .pinned, .pinned], laidTests := true, laidLooks := .later }
def FnExactIsLiveCardSaid : Prop := Claim7.holds Tryd.pinned (.plain (OpenSpec.ofChange fnExactIsLiveSpec)) fnExactIsLiveCard

/-- THE TIED CARD OF 'laws.FnExactPackPin'. -/
def fnExactPackPinCard : Claim7 := { stood := { row := fnExactPackPinRow, standIns := [], harness := (true, "c8aadefe625ea2daf0256d8dcd8b5b0d2e8045e8f2f7016ec300cf31a3e72ab5"), looks := false }, kinds := [], alts := [], laidByText := true, laidKinds := [.data, .pinned, .pinned], laidTests := true, laidLooks := .later }
def FnExactPackPinCardSaid : Prop := Claim7.holds Tryd.pinned (.plain (OpenSpec.ofChange fnExactPackPinSpec)) fnExactPackPinCard

/-- THE TIED CARD OF 'laws.FnExactReadPin'. -/
def fnExactReadPinCard : Claim7 := { stood := { row := fnExactReadPinRow, standIns := [], harness := (true, "c8aadefe625ea2daf0256d8dcd8b5b0d2e8045e8f2f7016ec300cf31a3e72ab5"), looks := false }, kinds := [], alts := [], laidByText := true, laidKinds := [.data, .pinned, .pinned], laidTests := true, laidLooks := .later }
def FnExactReadPinCardSaid : Prop := Claim7.holds Tryd.pinned (.plain (OpenSpec.ofChange fnExactReadPinSpec)) fnExactReadPinCard

/-- THE SECOND FORM's CARD OF 'laws.FnExactPinFault'. -/
def fnExactPinFaultUptoCard : Claim7 := { stood := { row := fnExactPinFaultUptoRow, standIns := [], harness := (true, "c8aadefe625ea2daf0256d8dcd8b5b0d2e8045e8f2f7016ec300cf31a3e72ab5"), looks := false }, kinds := [], alts := [], laidByText := true, laidKinds := [.data, .pinned, .pinned], laidTests := true, laidLooks := .later }
def FnExactPinFaultUptoCardSaid : Prop := Claim7.holds Tryd.pinned (.plain (OpenSpec.upto fnExactPinFaultSpec)) fnExactPinFaultUptoCard

/-- THE SECOND FORM's CARD OF 'laws.FnExactPinsFault'. -/
def fnExactPinsFaultUptoCard : Claim7 := { stood := { row := fnExactPinsFaultUptoRow, standIns := [], harness := (true, "c8aadefe625ea2daf0256d8dcd8b5b0d2e8045e8f2f7016ec300cf31a3e72ab5"), looks := false }, kinds := [], alts := [], laidByText := true, laidKinds := [.data, .pinned, .pinned], laidTests := true, laidLooks := .later }
def FnExactPinsFaultUptoCardSaid : Prop := Claim7.holds Tryd.pinned (.plain (OpenSpec.upto fnExactPinsFaultSpec)) fnExactPinsFaultUptoCard

/-- THE SECOND FORM's CARD OF 'laws.FnExactFindPin'. -/
def fnExactFindPinUptoCard : Claim7 := { stood := { row := fnExactFindPinUptoRow, standIns := [], harness := (true, "c8aadefe625ea2daf0256d8dcd8b5b0d2e8045e8f2f7016ec300cf31a3e72ab5"), looks := false }, kinds := [], alts := [], laidByText := true, laidKinds := [.data, .pinned, .pinned], laidTests := true, laidLooks := .later }
def FnExactFindPinUptoCardSaid : Prop := Claim7.holds Tryd.pinned (.plain (OpenSpec.upto fnExactFindPinSpec)) fnExactFindPinUptoCard

/-- THE SECOND FORM's CARD OF 'laws.FnExactPutPin'. -/
def fnExactPutPinUptoCard : Claim7 := { stood := { row := fnExactPutPinUptoRow, standIns := [], harness := (true, "c8aadefe625ea2daf0256d8dcd8b5b0d2e8045e8f2f7016ec300cf31a3e72ab5"), looks := false }, kinds := [], alts := [], laidByText := true, laidKinds := [.data, .pinned, .pinned], laidTests := true, laidLooks := .later }
def FnExactPutPinUptoCardSaid : Prop := Claim7.holds Tryd.pinned (.plain (OpenSpec.upto fnExactPutPinSpec)) fnExactPutPinUptoCard

/-- THE SECOND FORM's CARD OF 'laws.FnExactIsLive'. -/
def fnExactIsLiveUptoCard : Claim7 := { stood := { row := fnExactIsLiveUptoRow, standIns := [], harness := (true, "c8aadefe625ea2daf0256d8dcd8b5b0d2e8045e8f2f7016ec300cf31a3e72ab5"), looks := false }, kinds := [], alts := [], laidByText := true, laidKinds := [.data, .pinned, .pinned], laidTests := true, laidLooks := .later }
def FnExactIsLiveUptoCardSaid : Prop := Claim7.holds Tryd.pinned (.plain (OpenSpec.upto fnExactIsLiveSpec)) fnExactIsLiveUptoCard

/-- THE SECOND FORM's CARD OF 'laws.FnExactPackPin'. -/
def fnExactPackPinUptoCard : Claim7 := { stood := { row := fnExactPackPinUptoRow, standIns := [], harness := (true, "c8aadefe625ea2daf0256d8dcd8b5b0d2e8045e8f2f7016ec300cf31a3e72ab5"), looks := false }, kinds := [], alts := [], laidByText := true, laidKinds := [.data, .pinned, .pinned], laidTests := true, laidLooks := .later }
def FnExactPackPinUptoCardSaid : Prop := Claim7.holds Tryd.pinned (.plain (OpenSpec.upto fnExactPackPinSpec)) fnExactPackPinUptoCard

/-- THE SECOND FORM's CARD OF 'laws.FnExactReadPin'. -/
def fnExactReadPinUptoCard : Claim7 := { stood := { row := fnExactReadPinUptoRow, standIns := [], harness := (true, "c8aadefe625ea2daf0256d8dcd8b5b0d2e8045e8f2f7016ec300cf31a3e72ab5"), looks := false }, kinds := [], alts := [], laidByText := true, laidKinds := [.data, .pinned, .pinned], laidTests := true, laidLooks := .later }
def FnExactReadPinUptoCardSaid : Prop := Claim7.holds Tryd.pinned (.plain (OpenSpec.upto fnExactReadPinSpec)) fnExactReadPinUptoCard
end Rows
end Go.Proofs.YtcnpocppgghejaaDoor
