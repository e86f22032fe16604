/-
  DERIVED. GIVEN WITH THE SEED: THE CARDS: each row of YtcolecidbalmhaaDoorRows.lean that lists a variable, with what it lists TIED to the program's text (the seventh form; the later family's looks); each row that meets fmt, with fmt's text TOLD by the authors' own Lean function (tested against real Go, not proved from fmt's source: count such statements apart). THE CARD IS WHAT COUNTS. Prove the row's statement (the work); the ties are given (YtcolecidbalmhaaDoorTie.lean); close each card by the builder's one call (the guide's Derived/Test/ToyasCard.lean, 'card_holds'). Laid BY PROGRAM, IN A SANDBOX (cutbox-door.mjs). By AI agents, Wed Nov 11 2026. No macro, syntax, notation, axiom, sorry.
-/
import Derived.Test.YtcolecidbalmhaaDoorRows
import GoSem.ClaimSeven
namespace Go.Proofs.YtcolecidbalmhaaDoor
namespace Rows

/-- THE TIED CARD OF 'laws.FnExactAskFault'. -/
def fnExactAskFaultCard : Claim7 := { stood := { row := fnExactAskFaultRow, standIns := [], harness := (true, "7d9abe555d4775a95016775506fb31bf5d5db6fbe81f0effe5d58326dc6b7369"), looks := false }, kinds := [], alts := [], laidByText := true, laidKinds := [.data, .pinned, .pinned], laidTests := true, laidLooks := .later }
def FnExactAskFaultCardSaid : Prop := Claim7.holds Tryd.pinned (.plain (OpenSpec.ofChange fnExactAskFaultSpec)) fnExactAskFaultCard

/-- THE TIED CARD OF 'laws.FnExactUsableOf'. -/
def fnExactUsableOfCard : Claim7 := { stood := { row := fnExactUsableOfRow, standIns := [], harness := (true, "7d9abe555d4775a95016775506fb31bf5d5db6fbe81f0effe5d58326dc6b7369"), looks := false }, kinds := [], alts := [], laidByText := true, laidKinds := [.data, .pinned, .pinned], laidTests := true, laidLooks := .later }
def FnExactUsableOfCardSaid : Prop := Claim7.holds Tryd.pinned (.plain (OpenSpec.ofChange fnExactUsableOfSpec)) fnExactUsableOfCard

/-- THE TIED CARD OF 'laws.FnExactReasonText'. -/
def fnExactReasonTextCard : Claim7 := { stood := { row := fnExactReasonTextRow, standIns := [], harness := (true, "7d9abe555d4775a95016775506fb31bf5d5db6fbe81f0effe5d58326dc6b7369"), looks := false }, kinds := [], alts := [], laidByText := true, laidKinds := [.data], laidTests := true, laidLooks := .later }
def FnExactReasonTextCardSaid : Prop := Claim7.holds Tryd.pinned (.plain (OpenSpec.ofChange fnExactReasonTextSpec)) fnExactReasonTextCard

/-- THE SECOND FORM's CARD OF 'laws.FnExactAskFault'. -/
def fnExactAskFaultUptoCard : Claim7 := { stood := { row := fnExactAskFaultUptoRow, standIns := [], harness := (true, "7d9abe555d4775a95016775506fb31bf5d5db6fbe81f0effe5d58326dc6b7369"), looks := false }, kinds := [], alts := [], laidByText := true, laidKinds := [.data, .pinned, .pinned], laidTests := true, laidLooks := .later }
def FnExactAskFaultUptoCardSaid : Prop := Claim7.holds Tryd.pinned (.plain (OpenSpec.upto fnExactAskFaultSpec)) fnExactAskFaultUptoCard

/-- THE SECOND FORM's CARD OF 'laws.FnExactUsableOf'. -/
def fnExactUsableOfUptoCard : Claim7 := { stood := { row := fnExactUsableOfUptoRow, standIns := [], harness := (true, "7d9abe555d4775a95016775506fb31bf5d5db6fbe81f0effe5d58326dc6b7369"), looks := false }, kinds := [], alts := [], laidByText := true, laidKinds := [.data, .pinned, .pinned], laidTests := true, laidLooks := .later }
def FnExactUsableOfUptoCardSaid : Prop := Claim7.holds Tryd.pinned (.plain (OpenSpec.upto fnExactUsableOfSpec)) fnExactUsableOfUptoCard

/-- THE SECOND FORM's CARD OF 'laws.FnExactReasonText'. -/
def fnExactReasonTextUptoCard : Claim7 := { stood := { row := fnExactReasonTextUptoRow, standIns := [], harness := (true, "7d9abe555d4775a95016775506fb31bf5d5db6fbe81f0effe5d58326dc6b7369"), looks := false }, kinds := [], alts := [], laidByText := true, laidKinds := [.data], laidTests := true, laidLooks := .later }
def FnExactReasonTextUptoCardSaid : Prop := Claim7.holds Tryd.pinned (.plain (OpenSpec.upto fnExactReasonTextSpec)) fnExactReasonTextUptoCard
end Rows
end Go.Proofs.YtcolecidbalmhaaDoor
