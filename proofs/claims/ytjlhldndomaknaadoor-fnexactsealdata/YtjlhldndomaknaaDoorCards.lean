/-
  DERIVED. GIVEN WITH THE SEED: THE CARDS: each row of YtjlhldndomaknaaDoorRows.lean that lists a variable, with what it lists TIED to the program's text (the seventh form; the later family's looks); each row that meets fmt, with fmt's text TOLD by the authors' own Lean function (tested against real Go, not proved from fmt's source: count such statements apart). THE CARD IS WHAT COUNTS. Prove the row's statement (the work); the ties are given (YtjlhldndomaknaaDoorTie.lean); close each card by the builder's one call (the guide's Derived/Test/ToyasCard.lean, 'card_holds'). Laid BY PROGRAM, IN A SANDBOX (cutbox-door.mjs). By AI agents, Wed Nov 11 2026. No macro, syntax, notation, axiom, sorry.
-/
import Derived.Test.YtjlhldndomaknaaDoorRows
import GoSem.ClaimSeven
namespace Go.Proofs.YtjlhldndomaknaaDoor
namespace Rows

/-- THE TIED CARD OF 'laws.FnSums'. -/
def fnSumsCard : Claim7 := { stood := { row := fnSumsRow, standIns := [], harness := (true, "4a5f58da79ee3740e68d8374290cf18860c133a9a78e9ebfcf44aacab7ac0e12"), looks := true }, kinds := [], alts := [], laidByText := true, laidKinds := [.data], laidTests := true, laidLooks := .later }
def FnSumsCardSaid : Prop := Claim7.holds Tryd.pinned (.plain (OpenSpec.ofChange fnSumsSpec)) fnSumsCard

/-- THE TIED CARD OF 'laws.FnSigns'. -/
def fnSignsCard : Claim7 := { stood := { row := fnSignsRow, standIns := [], harness := (true, "4a5f58da79ee3740e68d8374290cf18860c133a9a78e9ebfcf44aacab7ac0e12"), looks := true }, kinds := [], alts := [], laidByText := true, laidKinds := [.handle, .data], laidTests := true, laidLooks := .later }
def FnSignsCardSaid : Prop := Claim7.holds Tryd.pinned (.plain (OpenSpec.ofChange fnSignsSpec)) fnSignsCard

/-- THE TIED CARD OF 'laws.FnSeals'. -/
def fnSealsCard : Claim7 := { stood := { row := fnSealsRow, standIns := [], harness := (true, "4a5f58da79ee3740e68d8374290cf18860c133a9a78e9ebfcf44aacab7ac0e12"), looks := true }, kinds := [], alts := [], laidByText := true, laidKinds := [.data], laidTests := true, laidLooks := .later }
def FnSealsCardSaid : Prop := Claim7.holds Tryd.pinned (.plain (OpenSpec.ofChange fnSealsSpec)) fnSealsCard

/-- THE TIED CARD OF 'laws.FnTurned'. -/
def fnTurnedCard : Claim7 := { stood := { row := fnTurnedRow, standIns := [], harness := (true, "4a5f58da79ee3740e68d8374290cf18860c133a9a78e9ebfcf44aacab7ac0e12"), looks := true }, kinds := [], alts := [], laidByText := true, laidKinds := [.data], laidTests := true, laidLooks := .later }
def FnTurnedCardSaid : Prop := Claim7.holds Tryd.pinned (.plain (OpenSpec.ofChange fnTurnedSpec)) fnTurnedCard

/-- THE TIED CARD OF 'laws.FnExactStreamOf'. -/
def fnExactStreamOfCard : Claim7 := { stood := { row := fnExactStreamOfRow, standIns := [], harness := (true, "4a5f58da79ee3740e68d8374290cf18860c133a9a78e9ebfcf44aacab7ac0e12"), looks := true }, kinds := [], alts := [], laidByText := true, laidKinds := [.data], laidTests := true, laidLooks := .later }
def FnExactStreamOfCardSaid : Prop := Claim7.holds Tryd.pinned (.plain (OpenSpec.ofChange fnExactStreamOfSpec)) fnExactStreamOfCard

/-- THE TIED CARD OF 'laws.FnExactTranscript'. -/
def fnExactTranscriptCard : Claim7 := { stood := { row := fnExactTranscriptRow, standIns := [], harness := (true, "4a5f58da79ee3740e68d8374290cf18860c133a9a78e9ebfcf44aacab7ac0e12"), looks := true }, kinds := [], alts := [], laidByText := true, laidKinds := [.data], laidTests := true, laidLooks := .later }
def FnExactTranscriptCardSaid : Prop := Claim7.holds Tryd.pinned (.plain (OpenSpec.ofChange fnExactTranscriptSpec)) fnExactTranscriptCard

/-- THE TIED CARD OF 'laws.FnExactNonceOf'. -/
def fnExactNonceOfCard : Claim7 := { stood := { row := fnExactNonceOfRow, standIns := [], harness := (true, "4a5f58da79ee3740e68d8374290cf18860c133a9a78e9ebfcf44aacab7ac0e12"), looks := true }, kinds := [], alts := [], laidByText := true, laidKinds := [.handle, .data], laidTests := true, laidLooks := .later }
def FnExactNonceOfCardSaid : Prop := Claim7.holds Tryd.pinned (.plain (OpenSpec.ofChange fnExactNonceOfSpec)) fnExactNonceOfCard

/-- THE TIED CARD OF 'laws.FnExactSignSum'. -/
def fnExactSignSumCard : Claim7 := { stood := { row := fnExactSignSumRow, standIns := [], harness := (true, "4a5f58da79ee3740e68d8374290cf18860c133a9a78e9ebfcf44aacab7ac0e12"), looks := true }, kinds := [], alts := [], laidByText := true, laidKinds := [.handle, .data], laidTests := true, laidLooks := .later }
def FnExactSignSumCardSaid : Prop := Claim7.holds Tryd.pinned (.plain (OpenSpec.ofChange fnExactSignSumSpec)) fnExactSignSumCard

/-- THE TIED CARD OF 'laws.FnExactCheckSign'. -/
def fnExactCheckSignCard : Claim7 := { stood := { row := fnExactCheckSignRow, standIns := [], harness := (true, "4a5f58da79ee3740e68d8374290cf18860c133a9a78e9ebfcf44aacab7ac0e12"), looks := true }, kinds := [], alts := [], laidByText := true, laidKinds := [.data], laidTests := true, laidLooks := .later }
def FnExactCheckSignCardSaid : Prop := Claim7.holds Tryd.pinned (.plain (OpenSpec.ofChange fnExactCheckSignSpec)) fnExactCheckSignCard

/-- THE TIED CARD OF 'laws.FnExactSealData'. -/
def fnExactSealDataCard : Claim7 := { stood := { row := fnExactSealDataRow, standIns := [], harness := (true, "4a5f58da79ee3740e68d8374290cf18860c133a9a78e9ebfcf44aacab7ac0e12"), looks := true }, kinds := [], alts := [], laidByText := true, laidKinds := [.data], laidTests := true, laidLooks := .later }
def FnExactSealDataCardSaid : Prop := Claim7.holds Tryd.pinned (.plain (OpenSpec.ofChange fnExactSealDataSpec)) fnExactSealDataCard

/-- THE TIED CARD OF 'laws.FnExactOpenRecord'. -/
def fnExactOpenRecordCard : Claim7 := { stood := { row := fnExactOpenRecordRow, standIns := [], harness := (true, "4a5f58da79ee3740e68d8374290cf18860c133a9a78e9ebfcf44aacab7ac0e12"), looks := true }, kinds := [], alts := [], laidByText := true, laidKinds := [.data], laidTests := true, laidLooks := .later }
def FnExactOpenRecordCardSaid : Prop := Claim7.holds Tryd.pinned (.plain (OpenSpec.ofChange fnExactOpenRecordSpec)) fnExactOpenRecordCard

/-- THE SECOND FORM's CARD OF 'laws.FnSums'. -/
def fnSumsUptoCard : Claim7 := { stood := { row := fnSumsUptoRow, standIns := [], harness := (true, "4a5f58da79ee3740e68d8374290cf18860c133a9a78e9ebfcf44aacab7ac0e12"), looks := true }, kinds := [], alts := [], laidByText := true, laidKinds := [.data], laidTests := true, laidLooks := .later }
def FnSumsUptoCardSaid : Prop := Claim7.holds Tryd.pinned (.plain (OpenSpec.upto fnSumsSpec)) fnSumsUptoCard

/-- THE SECOND FORM's CARD OF 'laws.FnSigns'. -/
def fnSignsUptoCard : Claim7 := { stood := { row := fnSignsUptoRow, standIns := [], harness := (true, "4a5f58da79ee3740e68d8374290cf18860c133a9a78e9ebfcf44aacab7ac0e12"), looks := true }, kinds := [], alts := [], laidByText := true, laidKinds := [.handle, .data], laidTests := true, laidLooks := .later }
def FnSignsUptoCardSaid : Prop := Claim7.holds Tryd.pinned (.plain (OpenSpec.upto fnSignsSpec)) fnSignsUptoCard

/-- THE SECOND FORM's CARD OF 'laws.FnSeals'. -/
def fnSealsUptoCard : Claim7 := { stood := { row := fnSealsUptoRow, standIns := [], harness := (true, "4a5f58da79ee3740e68d8374290cf18860c133a9a78e9ebfcf44aacab7ac0e12"), looks := true }, kinds := [], alts := [], laidByText := true, laidKinds := [.data], laidTests := true, laidLooks := .later }
def FnSealsUptoCardSaid : Prop := Claim7.holds Tryd.pinned (.plain (OpenSpec.upto fnSealsSpec)) fnSealsUptoCard

/-- THE SECOND FORM's CARD OF 'laws.FnTurned'. -/
def fnTurnedUptoCard : Claim7 := { stood := { row := fnTurnedUptoRow, standIns := [], harness := (true, "4a5f58da79ee3740e68d8374290cf18860c133a9a78e9ebfcf44aacab7ac0e12"), looks := true }, kinds := [], alts := [], laidByText := true, laidKinds := [.data], laidTests := true, laidLooks := .later }
def FnTurnedUptoCardSaid : Prop := Claim7.holds Tryd.pinned (.plain (OpenSpec.upto fnTurnedSpec)) fnTurnedUptoCard

/-- THE SECOND FORM's CARD OF 'laws.FnExactStreamOf'. -/
def fnExactStreamOfUptoCard : Claim7 := { stood := { row := fnExactStreamOfUptoRow, standIns := [], harness := (true, "4a5f58da79ee3740e68d8374290cf18860c133a9a78e9ebfcf44aacab7ac0e12"), looks := true }, kinds := [], alts := [], laidByText := true, laidKinds := [.data], laidTests := true, laidLooks := .later }
def FnExactStreamOfUptoCardSaid : Prop := Claim7.holds Tryd.pinned (.plain (OpenSpec.upto fnExactStreamOfSpec)) fnExactStreamOfUptoCard

/-- THE SECOND FORM's CARD OF 'laws.FnExactTranscript'. -/
def fnExactTranscriptUptoCard : Claim7 := { stood := { row := fnExactTranscriptUptoRow, standIns := [], harness := (true, "4a5f58da79ee3740e68d8374290cf18860c133a9a78e9ebfcf44aacab7ac0e12"), looks := true }, kinds := [], alts := [], laidByText := true, laidKinds := [.data], laidTests := true, laidLooks := .later }
def FnExactTranscriptUptoCardSaid : Prop := Claim7.holds Tryd.pinned (.plain (OpenSpec.upto fnExactTranscriptSpec)) fnExactTranscriptUptoCard

/-- THE SECOND FORM's CARD OF 'laws.FnExactNonceOf'. -/
def fnExactNonceOfUptoCard : Claim7 := { stood := { row := fnExactNonceOfUptoRow, standIns := [], harness := (true, "4a5f58da79ee3740e68d8374290cf18860c133a9a78e9ebfcf44aacab7ac0e12"), looks := true }, kinds := [], alts := [], laidByText := true, laidKinds := [.handle, .data], laidTests := true, laidLooks := .later }
def FnExactNonceOfUptoCardSaid : Prop := Claim7.holds Tryd.pinned (.plain (OpenSpec.upto fnExactNonceOfSpec)) fnExactNonceOfUptoCard

/-- THE SECOND FORM's CARD OF 'laws.FnExactSignSum'. -/
def fnExactSignSumUptoCard : Claim7 := { stood := { row := fnExactSignSumUptoRow, standIns := [], harness := (true, "4a5f58da79ee3740e68d8374290cf18860c133a9a78e9ebfcf44aacab7ac0e12"), looks := true }, kinds := [], alts := [], laidByText := true, laidKinds := [.handle, .data], laidTests := true, laidLooks := .later }
def FnExactSignSumUptoCardSaid : Prop := Claim7.holds Tryd.pinned (.plain (OpenSpec.upto fnExactSignSumSpec)) fnExactSignSumUptoCard

/-- THE SECOND FORM's CARD OF 'laws.FnExactCheckSign'. -/
def fnExactCheckSignUptoCard : Claim7 := { stood := { row := fnExactCheckSignUptoRow, standIns := [], harness := (true, "4a5f58da79ee3740e68d8374290cf18860c133a9a78e9ebfcf44aacab7ac0e12"), looks := true }, kinds := [], alts := [], laidByText := true, laidKinds := [.data], laidTests := true, laidLooks := .later }
def FnExactCheckSignUptoCardSaid : Prop := Claim7.holds Tryd.pinned (.plain (OpenSpec.upto fnExactCheckSignSpec)) fnExactCheckSignUptoCard

/-- THE SECOND FORM's CARD OF 'laws.FnExactSealData'. -/
def fnExactSealDataUptoCard : Claim7 := { stood := { row := fnExactSealDataUptoRow, standIns := [], harness := (true, "4a5f58da79ee3740e68d8374290cf18860c133a9a78e9ebfcf44aacab7ac0e12"), looks := true }, kinds := [], alts := [], laidByText := true, laidKinds := [.data], laidTests := true, laidLooks := .later }
def FnExactSealDataUptoCardSaid : Prop := Claim7.holds Tryd.pinned (.plain (OpenSpec.upto fnExactSealDataSpec)) fnExactSealDataUptoCard

/-- THE SECOND FORM's CARD OF 'laws.FnExactOpenRecord'. -/
def fnExactOpenRecordUptoCard : Claim7 := { stood := { row := fnExactOpenRecordUptoRow, standIns := [], harness := (true, "4a5f58da79ee3740e68d8374290cf18860c133a9a78e9ebfcf44aacab7ac0e12"), looks := true }, kinds := [], alts := [], laidByText := true, laidKinds := [.data], laidTests := true, laidLooks := .later }
def FnExactOpenRecordUptoCardSaid : Prop := Claim7.holds Tryd.pinned (.plain (OpenSpec.upto fnExactOpenRecordSpec)) fnExactOpenRecordUptoCard
end Rows
end Go.Proofs.YtjlhldndomaknaaDoor
