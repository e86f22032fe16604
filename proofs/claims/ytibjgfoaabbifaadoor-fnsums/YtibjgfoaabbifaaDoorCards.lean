/-
  DERIVED. GIVEN WITH THE SEED: THE CARDS: each row of YtibjgfoaabbifaaDoorRows.lean that lists a variable, with what it lists TIED to the program's text (the seventh form; the later family's looks); each row that meets fmt, with fmt's text TOLD by the authors' own Lean function (tested against real Go, not proved from fmt's source: count such statements apart). THE CARD IS WHAT COUNTS. Prove the row's statement (the work); the ties are given (YtibjgfoaabbifaaDoorTie.lean); close each card by the builder's one call (the guide's Derived/Test/ToyasCard.lean, 'card_holds'). Laid BY PROGRAM, IN A SANDBOX (cutbox-door.mjs). By AI agents, Wed Nov 11 2026. No macro, syntax, notation, axiom, sorry.
-/
import Derived.Test.YtibjgfoaabbifaaDoorRows
import GoSem.ClaimSeven
namespace Go.Proofs.YtibjgfoaabbifaaDoor
namespace Rows

/-- THE TIED CARD OF 'laws.FnSums'. -/
def fnSumsCard : Claim7 := { stood := { row := fnSumsRow, standIns := [], harness := (true, "c90ce1b151f468c8a4a07f593e336c195563d907f0d5676d9fc366cdc9480926"), looks := true }, kinds := [], alts := [], laidByText := true, laidKinds := [.data], laidTests := true, laidLooks := .later }
def FnSumsCardSaid : Prop := Claim7.holds Tryd.pinned (.plain (OpenSpec.ofChange fnSumsSpec)) fnSumsCard

/-- THE TIED CARD OF 'laws.FnExactStreamOf'. -/
def fnExactStreamOfCard : Claim7 := { stood := { row := fnExactStreamOfRow, standIns := [], harness := (true, "c90ce1b151f468c8a4a07f593e336c195563d907f0d5676d9fc366cdc9480926"), looks := true }, kinds := [], alts := [], laidByText := true, laidKinds := [.data], laidTests := true, laidLooks := .later }
def FnExactStreamOfCardSaid : Prop := Claim7.holds Tryd.pinned (.plain (OpenSpec.ofChange fnExactStreamOfSpec)) fnExactStreamOfCard

/-- THE TIED CARD OF 'laws.FnExactTranscript'. -/
def fnExactTranscriptCard : Claim7 := { stood := { row := fnExactTranscriptRow, standIns := [], harness := (true, "c90ce1b151f468c8a4a07f593e336c195563d907f0d5676d9fc366cdc9480926"), looks := true }, kinds := [], alts := [], laidByText := true, laidKinds := [.data], laidTests := true, laidLooks := .later }
def FnExactTranscriptCardSaid : Prop := Claim7.holds Tryd.pinned (.plain (OpenSpec.ofChange fnExactTranscriptSpec)) fnExactTranscriptCard

/-- THE TIED CARD OF 'laws.FnSigns'. -/
def fnSignsCard : Claim7 := { stood := { row := fnSignsRow, standIns := [], harness := (true, "c90ce1b151f468c8a4a07f593e336c195563d907f0d5676d9fc366cdc9480926"), looks := true }, kinds := [], alts := [], laidByText := true, laidKinds := [.handle, .data], laidTests := true, laidLooks := .later }
def FnSignsCardSaid : Prop := Claim7.holds Tryd.pinned (.plain (OpenSpec.ofChange fnSignsSpec)) fnSignsCard

/-- THE TIED CARD OF 'laws.FnExactNonceOf'. -/
def fnExactNonceOfCard : Claim7 := { stood := { row := fnExactNonceOfRow, standIns := [], harness := (true, "c90ce1b151f468c8a4a07f593e336c195563d907f0d5676d9fc366cdc9480926"), looks := true }, kinds := [], alts := [], laidByText := true, laidKinds := [.handle, .data], laidTests := true, laidLooks := .later }
def FnExactNonceOfCardSaid : Prop := Claim7.holds Tryd.pinned (.plain (OpenSpec.ofChange fnExactNonceOfSpec)) fnExactNonceOfCard

/-- THE TIED CARD OF 'laws.FnExactSignSum'. -/
def fnExactSignSumCard : Claim7 := { stood := { row := fnExactSignSumRow, standIns := [], harness := (true, "c90ce1b151f468c8a4a07f593e336c195563d907f0d5676d9fc366cdc9480926"), looks := true }, kinds := [], alts := [], laidByText := true, laidKinds := [.handle, .data], laidTests := true, laidLooks := .later }
def FnExactSignSumCardSaid : Prop := Claim7.holds Tryd.pinned (.plain (OpenSpec.ofChange fnExactSignSumSpec)) fnExactSignSumCard

/-- THE TIED CARD OF 'laws.FnExactCheckSign'. -/
def fnExactCheckSignCard : Claim7 := { stood := { row := fnExactCheckSignRow, standIns := [], harness := (true, "c90ce1b151f468c8a4a07f593e336c195563d907f0d5676d9fc366cdc9480926"), looks := true }, kinds := [], alts := [], laidByText := true, laidKinds := [.data], laidTests := true, laidLooks := .later }
def FnExactCheckSignCardSaid : Prop := Claim7.holds Tryd.pinned (.plain (OpenSpec.ofChange fnExactCheckSignSpec)) fnExactCheckSignCard

/-- THE SECOND FORM's CARD OF 'laws.FnSums'. -/
def fnSumsUptoCard : Claim7 := { stood := { row := fnSumsUptoRow, standIns := [], harness := (true, "c90ce1b151f468c8a4a07f593e336c195563d907f0d5676d9fc366cdc9480926"), looks := true }, kinds := [], alts := [], laidByText := true, laidKinds := [.data], laidTests := true, laidLooks := .later }
def FnSumsUptoCardSaid : Prop := Claim7.holds Tryd.pinned (.plain (OpenSpec.upto fnSumsSpec)) fnSumsUptoCard

/-- THE SECOND FORM's CARD OF 'laws.FnExactStreamOf'. -/
def fnExactStreamOfUptoCard : Claim7 := { stood := { row := fnExactStreamOfUptoRow, standIns := [], harness := (true, "c90ce1b151f468c8a4a07f593e336c195563d907f0d5676d9fc366cdc9480926"), looks := true }, kinds := [], alts := [], laidByText := true, laidKinds := [.data], laidTests := true, laidLooks := .later }
def FnExactStreamOfUptoCardSaid : Prop := Claim7.holds Tryd.pinned (.plain (OpenSpec.upto fnExactStreamOfSpec)) fnExactStreamOfUptoCard

/-- THE SECOND FORM's CARD OF 'laws.FnExactTranscript'. -/
def fnExactTranscriptUptoCard : Claim7 := { stood := { row := fnExactTranscriptUptoRow, standIns := [], harness := (true, "c90ce1b151f468c8a4a07f593e336c195563d907f0d5676d9fc366cdc9480926"), looks := true }, kinds := [], alts := [], laidByText := true, laidKinds := [.data], laidTests := true, laidLooks := .later }
def FnExactTranscriptUptoCardSaid : Prop := Claim7.holds Tryd.pinned (.plain (OpenSpec.upto fnExactTranscriptSpec)) fnExactTranscriptUptoCard

/-- THE SECOND FORM's CARD OF 'laws.FnSigns'. -/
def fnSignsUptoCard : Claim7 := { stood := { row := fnSignsUptoRow, standIns := [], harness := (true, "c90ce1b151f468c8a4a07f593e336c195563d907f0d5676d9fc366cdc9480926"), looks := true }, kinds := [], alts := [], laidByText := true, laidKinds := [.handle, .data], laidTests := true, laidLooks := .later }
def FnSignsUptoCardSaid : Prop := Claim7.holds Tryd.pinned (.plain (OpenSpec.upto fnSignsSpec)) fnSignsUptoCard

/-- THE SECOND FORM's CARD OF 'laws.FnExactNonceOf'. -/
def fnExactNonceOfUptoCard : Claim7 := { stood := { row := fnExactNonceOfUptoRow, standIns := [], harness := (true, "c90ce1b151f468c8a4a07f593e336c195563d907f0d5676d9fc366cdc9480926"), looks := true }, kinds := [], alts := [], laidByText := true, laidKinds := [.handle, .data], laidTests := true, laidLooks := .later }
def FnExactNonceOfUptoCardSaid : Prop := Claim7.holds Tryd.pinned (.plain (OpenSpec.upto fnExactNonceOfSpec)) fnExactNonceOfUptoCard

/-- THE SECOND FORM's CARD OF 'laws.FnExactSignSum'. -/
def fnExactSignSumUptoCard : Claim7 := { stood := { row := fnExactSignSumUptoRow, standIns := [], harness := (true, "c90ce1b151f468c8a4a07f593e336c195563d907f0d5676d9fc366cdc9480926"), looks := true }, kinds := [], alts := [], laidByText := true, laidKinds := [.handle, .data], laidTests := true, laidLooks := .later }
def FnExactSignSumUptoCardSaid : Prop := Claim7.holds Tryd.pinned (.plain (OpenSpec.upto fnExactSignSumSpec)) fnExactSignSumUptoCard

/-- THE SECOND FORM's CARD OF 'laws.FnExactCheckSign'. -/
def fnExactCheckSignUptoCard : Claim7 := { stood := { row := fnExactCheckSignUptoRow, standIns := [], harness := (true, "c90ce1b151f468c8a4a07f593e336c195563d907f0d5676d9fc366cdc9480926"), looks := true }, kinds := [], alts := [], laidByText := true, laidKinds := [.data], laidTests := true, laidLooks := .later }
def FnExactCheckSignUptoCardSaid : Prop := Claim7.holds Tryd.pinned (.plain (OpenSpec.upto fnExactCheckSignSpec)) fnExactCheckSignUptoCard
end Rows
end Go.Proofs.YtibjgfoaabbifaaDoor
