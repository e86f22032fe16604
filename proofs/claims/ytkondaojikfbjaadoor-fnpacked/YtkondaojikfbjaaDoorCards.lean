/-
  DERIVED. GIVEN WITH THE SEED: THE CARDS: each row of YtkondaojikfbjaaDoorRows.lean that lists a variable, with what it lists TIED to the program's text (the seventh form; the later family's looks); each row that meets fmt, with fmt's text TOLD by the authors' own Lean function (tested against real Go, not proved from fmt's source: count such statements apart). THE CARD IS WHAT COUNTS. Prove the row's statement (the work); the ties are given (YtkondaojikfbjaaDoorTie.lean); close each card by the builder's one call (the guide's Derived/Test/ToyasCard.lean, 'card_holds'). Laid BY PROGRAM, IN A SANDBOX (cutbox-door.mjs). By AI agents, Wed Nov 11 2026. No macro, syntax, notation, axiom, sorry.
-/
import Derived.Test.YtkondaojikfbjaaDoorRows
import GoSem.ClaimSeven
namespace Go.Proofs.YtkondaojikfbjaaDoor
namespace Rows

/-- THE TIED CARD OF 'laws.FnSums'. -/
def fnSumsCard : Claim7 := { stood := { row := fnSumsRow, standIns := [], harness := (true, "81a2cc4e083d50f3ff1aa886c21185674e48cfdb4cfeb0ad68ab98cc2d5c91de"), looks := true }, kinds := [], alts := [], laidByText := true, laidKinds := [.data], laidTests := true, laidLooks := .later }
def FnSumsCardSaid : Prop := Claim7.holds Tryd.pinned (.plain (OpenSpec.ofChange fnSumsSpec)) fnSumsCard

/-- THE TIED CARD OF 'laws.FnSigns'. -/
def fnSignsCard : Claim7 := { stood := { row := fnSignsRow, standIns := [], harness := (true, "81a2cc4e083d50f3ff1aa886c21185674e48cfdb4cfeb0ad68ab98cc2d5c91de"), looks := true }, kinds := [], alts := [], laidByText := true, laidKinds := [.handle, .data], laidTests := true, laidLooks := .later }
def FnSignsCardSaid : Prop := Claim7.holds Tryd.pinned (.plain (OpenSpec.ofChange fnSignsSpec)) fnSignsCard

/-- THE TIED CARD OF 'laws.FnPacked'. -/
def fnPackedCard : Claim7 := { stood := { row := fnPackedRow, standIns := [], harness := (true, "81a2cc4e083d50f3ff1aa886c21185674e48cfdb4cfeb0ad68ab98cc2d5c91de"), looks := true }, kinds := [], alts := [], laidByText := true, laidKinds := [.handle], laidTests := true, laidLooks := .later }
def FnPackedCardSaid : Prop := Claim7.holds Tryd.pinned (.plain (OpenSpec.ofChange fnPackedSpec)) fnPackedCard

/-- THE TIED CARD OF 'laws.FnExactStreamOf'. -/
def fnExactStreamOfCard : Claim7 := { stood := { row := fnExactStreamOfRow, standIns := [], harness := (true, "81a2cc4e083d50f3ff1aa886c21185674e48cfdb4cfeb0ad68ab98cc2d5c91de"), looks := true }, kinds := [], alts := [], laidByText := true, laidKinds := [.data], laidTests := true, laidLooks := .later }
def FnExactStreamOfCardSaid : Prop := Claim7.holds Tryd.pinned (.plain (OpenSpec.ofChange fnExactStreamOfSpec)) fnExactStreamOfCard

/-- THE TIED CARD OF 'laws.FnExactTranscript'. -/
def fnExactTranscriptCard : Claim7 := { stood := { row := fnExactTranscriptRow, standIns := [], harness := (true, "81a2cc4e083d50f3ff1aa886c21185674e48cfdb4cfeb0ad68ab98cc2d5c91de"), looks := true }, kinds := [], alts := [], laidByText := true, laidKinds := [.data], laidTests := true, laidLooks := .later }
def FnExactTranscriptCardSaid : Prop := Claim7.holds Tryd.pinned (.plain (OpenSpec.ofChange fnExactTranscriptSpec)) fnExactTranscriptCard

/-- THE TIED CARD OF 'laws.FnExactNonceOf'. -/
def fnExactNonceOfCard : Claim7 := { stood := { row := fnExactNonceOfRow, standIns := [], harness := (true, "81a2cc4e083d50f3ff1aa886c21185674e48cfdb4cfeb0ad68ab98cc2d5c91de"), looks := true }, kinds := [], alts := [], laidByText := true, laidKinds := [.handle, .data], laidTests := true, laidLooks := .later }
def FnExactNonceOfCardSaid : Prop := Claim7.holds Tryd.pinned (.plain (OpenSpec.ofChange fnExactNonceOfSpec)) fnExactNonceOfCard

/-- THE TIED CARD OF 'laws.FnExactSignSum'. -/
def fnExactSignSumCard : Claim7 := { stood := { row := fnExactSignSumRow, standIns := [], harness := (true, "81a2cc4e083d50f3ff1aa886c21185674e48cfdb4cfeb0ad68ab98cc2d5c91de"), looks := true }, kinds := [], alts := [], laidByText := true, laidKinds := [.handle, .data], laidTests := true, laidLooks := .later }
def FnExactSignSumCardSaid : Prop := Claim7.holds Tryd.pinned (.plain (OpenSpec.ofChange fnExactSignSumSpec)) fnExactSignSumCard

/-- THE TIED CARD OF 'laws.FnExactCheckSign'. -/
def fnExactCheckSignCard : Claim7 := { stood := { row := fnExactCheckSignRow, standIns := [], harness := (true, "81a2cc4e083d50f3ff1aa886c21185674e48cfdb4cfeb0ad68ab98cc2d5c91de"), looks := true }, kinds := [], alts := [], laidByText := true, laidKinds := [.data], laidTests := true, laidLooks := .later }
def FnExactCheckSignCardSaid : Prop := Claim7.holds Tryd.pinned (.plain (OpenSpec.ofChange fnExactCheckSignSpec)) fnExactCheckSignCard

/-- THE TIED CARD OF 'laws.FnExactPackSign'. -/
def fnExactPackSignCard : Claim7 := { stood := { row := fnExactPackSignRow, standIns := [], harness := (true, "81a2cc4e083d50f3ff1aa886c21185674e48cfdb4cfeb0ad68ab98cc2d5c91de"), looks := true }, kinds := [], alts := [], laidByText := true, laidKinds := [.handle], laidTests := true, laidLooks := .later }
def FnExactPackSignCardSaid : Prop := Claim7.holds Tryd.pinned (.plain (OpenSpec.ofChange fnExactPackSignSpec)) fnExactPackSignCard

/-- THE TIED CARD OF 'laws.FnExactSignFault'. -/
def fnExactSignFaultCard : Claim7 := { stood := { row := fnExactSignFaultRow, standIns := [], harness := (true, "81a2cc4e083d50f3ff1aa886c21185674e48cfdb4cfeb0ad68ab98cc2d5c91de"), looks := true }, kinds := [], alts := [], laidByText := true, laidKinds := [.handle], laidTests := true, laidLooks := .later }
def FnExactSignFaultCardSaid : Prop := Claim7.holds Tryd.pinned (.plain (OpenSpec.ofChange fnExactSignFaultSpec)) fnExactSignFaultCard

/-- THE SECOND FORM's CARD OF 'laws.FnSums'. -/
def fnSumsUptoCard : Claim7 := { stood := { row := fnSumsUptoRow, standIns := [], harness := (true, "81a2cc4e083d50f3ff1aa886c21185674e48cfdb4cfeb0ad68ab98cc2d5c91de"), looks := true }, kinds := [], alts := [], laidByText := true, laidKinds := [.data], laidTests := true, laidLooks := .later }
def FnSumsUptoCardSaid : Prop := Claim7.holds Tryd.pinned (.plain (OpenSpec.upto fnSumsSpec)) fnSumsUptoCard

/-- THE SECOND FORM's CARD OF 'laws.FnSigns'. -/
def fnSignsUptoCard : Claim7 := { stood := { row := fnSignsUptoRow, standIns := [], harness := (true, "81a2cc4e083d50f3ff1aa886c21185674e48cfdb4cfeb0ad68ab98cc2d5c91de"), looks := true }, kinds := [], alts := [], laidByText := true, laidKinds := [.handle, .data], laidTests := true, laidLooks := .later }
def FnSignsUptoCardSaid : Prop := Claim7.holds Tryd.pinned (.plain (OpenSpec.upto fnSignsSpec)) fnSignsUptoCard

/-- THE SECOND FORM's CARD OF 'laws.FnPacked'. -/
def fnPackedUptoCard : Claim7 := { stood := { row := fnPackedUptoRow, standIns := [], harness := (true, "81a2cc4e083d50f3ff1aa886c21185674e48cfdb4cfeb0ad68ab98cc2d5c91de"), looks := true }, kinds := [], alts := [], laidByText := true, laidKinds := [.handle], laidTests := true, laidLooks := .later }
def FnPackedUptoCardSaid : Prop := Claim7.holds Tryd.pinned (.plain (OpenSpec.upto fnPackedSpec)) fnPackedUptoCard

/-- THE SECOND FORM's CARD OF 'laws.FnExactStreamOf'. -/
def fnExactStreamOfUptoCard : Claim7 := { stood := { row := fnExactStreamOfUptoRow, standIns := [], harness := (true, "81a2cc4e083d50f3ff1aa886c21185674e48cfdb4cfeb0ad68ab98cc2d5c91de"), looks := true }, kinds := [], alts := [], laidByText := true, laidKinds := [.data], laidTests := true, laidLooks := .later }
def FnExactStreamOfUptoCardSaid : Prop := Claim7.holds Tryd.pinned (.plain (OpenSpec.upto fnExactStreamOfSpec)) fnExactStreamOfUptoCard

/-- THE SECOND FORM's CARD OF 'laws.FnExactTranscript'. -/
def fnExactTranscriptUptoCard : Claim7 := { stood := { row := fnExactTranscriptUptoRow, standIns := [], harness := (true, "81a2cc4e083d50f3ff1aa886c21185674e48cfdb4cfeb0ad68ab98cc2d5c91de"), looks := true }, kinds := [], alts := [], laidByText := true, laidKinds := [.data], laidTests := true, laidLooks := .later }
def FnExactTranscriptUptoCardSaid : Prop := Claim7.holds Tryd.pinned (.plain (OpenSpec.upto fnExactTranscriptSpec)) fnExactTranscriptUptoCard

/-- THE SECOND FORM's CARD OF 'laws.FnExactNonceOf'. -/
def fnExactNonceOfUptoCard : Claim7 := { stood := { row := fnExactNonceOfUptoRow, standIns := [], harness := (true, "81a2cc4e083d50f3ff1aa886c21185674e48cfdb4cfeb0ad68ab98cc2d5c91de"), looks := true }, kinds := [], alts := [], laidByText := true, laidKinds := [.handle, .data], laidTests := true, laidLooks := .later }
def FnExactNonceOfUptoCardSaid : Prop := Claim7.holds Tryd.pinned (.plain (OpenSpec.upto fnExactNonceOfSpec)) fnExactNonceOfUptoCard

/-- THE SECOND FORM's CARD OF 'laws.FnExactSignSum'. -/
def fnExactSignSumUptoCard : Claim7 := { stood := { row := fnExactSignSumUptoRow, standIns := [], harness := (true, "81a2cc4e083d50f3ff1aa886c21185674e48cfdb4cfeb0ad68ab98cc2d5c91de"), looks := true }, kinds := [], alts := [], laidByText := true, laidKinds := [.handle, .data], laidTests := true, laidLooks := .later }
def FnExactSignSumUptoCardSaid : Prop := Claim7.holds Tryd.pinned (.plain (OpenSpec.upto fnExactSignSumSpec)) fnExactSignSumUptoCard

/-- THE SECOND FORM's CARD OF 'laws.FnExactCheckSign'. -/
def fnExactCheckSignUptoCard : Claim7 := { stood := { row := fnExactCheckSignUptoRow, standIns := [], harness := (true, "81a2cc4e083d50f3ff1aa886c21185674e48cfdb4cfeb0ad68ab98cc2d5c91de"), looks := true }, kinds := [], alts := [], laidByText := true, laidKinds := [.data], laidTests := true, laidLooks := .later }
def FnExactCheckSignUptoCardSaid : Prop := Claim7.holds Tryd.pinned (.plain (OpenSpec.upto fnExactCheckSignSpec)) fnExactCheckSignUptoCard

/-- THE SECOND FORM's CARD OF 'laws.FnExactPackSign'. -/
def fnExactPackSignUptoCard : Claim7 := { stood := { row := fnExactPackSignUptoRow, standIns := [], harness := (true, "81a2cc4e083d50f3ff1aa886c21185674e48cfdb4cfeb0ad68ab98cc2d5c91de"), looks := true }, kinds := [], alts := [], laidByText := true, laidKinds := [.handle], laidTests := true, laidLooks := .later }
def FnExactPackSignUptoCardSaid : Prop := Claim7.holds Tryd.pinned (.plain (OpenSpec.upto fnExactPackSignSpec)) fnExactPackSignUptoCard

/-- THE SECOND FORM's CARD OF 'laws.FnExactSignFault'. -/
def fnExactSignFaultUptoCard : Claim7 := { stood := { row := fnExactSignFaultUptoRow, standIns := [], harness := (true, "81a2cc4e083d50f3ff1aa886c21185674e48cfdb4cfeb0ad68ab98cc2d5c91de"), looks := true }, kinds := [], alts := [], laidByText := true, laidKinds := [.handle], laidTests := true, laidLooks := .later }
def FnExactSignFaultUptoCardSaid : Prop := Claim7.holds Tryd.pinned (.plain (OpenSpec.upto fnExactSignFaultSpec)) fnExactSignFaultUptoCard
end Rows
end Go.Proofs.YtkondaojikfbjaaDoor
