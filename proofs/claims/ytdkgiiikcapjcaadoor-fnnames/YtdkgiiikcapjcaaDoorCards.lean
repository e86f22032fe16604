/-
  DERIVED. GIVEN WITH THE SEED: THE CARDS: each row of YtdkgiiikcapjcaaDoorRows.lean that lists a variable, with what it lists TIED to the program's text (the seventh form; the later family's looks); each row that meets fmt, with fmt's text TOLD by the authors' own Lean function (tested against real Go, not proved from fmt's source: count such statements apart). THE CARD IS WHAT COUNTS. Prove the row's statement (the work); the ties are given (YtdkgiiikcapjcaaDoorTie.lean); close each card by the builder's one call (the guide's Derived/Test/ToyasCard.lean, 'card_holds'). Laid BY PROGRAM, IN A SANDBOX (cutbox-door.mjs). By AI agents, Wed Nov 11 2026. No macro, syntax, notation, axiom, sorry.
-/
import Derived.Test.YtdkgiiikcapjcaaDoorRows
import GoSem.ClaimSeven
namespace Go.Proofs.YtdkgiiikcapjcaaDoor
namespace Rows

/-- THE TIED CARD OF 'laws.FnNames'. -/
def fnNamesCard : Claim7 := { stood := { row := fnNamesRow, standIns := [], harness := (true, "56bb31998719c861994971f3ea3a8714d06acf436f2ad4b97c01279cde782a00"), looks := false }, kinds := [], alts := [], laidByText := true, laidKinds := [.data, .data, .pinned, .pinned], laidTests := true, laidLooks := .later }
def FnNamesCardSaid : Prop := Claim7.holds Tryd.pinned (.plain (OpenSpec.ofChange fnNamesSpec)) fnNamesCard

/-- THE TIED CARD OF 'laws.FnExactNormalName'. -/
def fnExactNormalNameCard : Claim7 := { stood := { row := fnExactNormalNameRow, standIns := [], harness := (true, "56bb31998719c861994971f3ea3a8714d06acf436f2ad4b97c01279cde782a00"), looks := false }, kinds := [], alts := [], laidByText := true, laidKinds := [.data, .pinned, .pinned], laidTests := true, laidLooks := .later }
def FnExactNormalNameCardSaid : Prop := Claim7.holds Tryd.pinned (.plain (OpenSpec.ofChange fnExactNormalNameSpec)) fnExactNormalNameCard

/-- THE TIED CARD OF 'laws.FnExactTlsaFault'. -/
def fnExactTlsaFaultCard : Claim7 := { stood := { row := fnExactTlsaFaultRow, standIns := [], harness := (true, "56bb31998719c861994971f3ea3a8714d06acf436f2ad4b97c01279cde782a00"), looks := false }, kinds := [], alts := [], laidByText := true, laidKinds := [.data, .pinned, .pinned], laidTests := true, laidLooks := .later }
def FnExactTlsaFaultCardSaid : Prop := Claim7.holds Tryd.pinned (.plain (OpenSpec.ofChange fnExactTlsaFaultSpec)) fnExactTlsaFaultCard

/-- THE TIED CARD OF 'laws.FnExactPackTlsa'. -/
def fnExactPackTlsaCard : Claim7 := { stood := { row := fnExactPackTlsaRow, standIns := [], harness := (true, "56bb31998719c861994971f3ea3a8714d06acf436f2ad4b97c01279cde782a00"), looks := false }, kinds := [], alts := [], laidByText := true, laidKinds := [.data, .pinned, .pinned], laidTests := true, laidLooks := .later }
def FnExactPackTlsaCardSaid : Prop := Claim7.holds Tryd.pinned (.plain (OpenSpec.ofChange fnExactPackTlsaSpec)) fnExactPackTlsaCard

/-- THE TIED CARD OF 'laws.FnExactReadTlsa'. -/
def fnExactReadTlsaCard : Claim7 := { stood := { row := fnExactReadTlsaRow, standIns := [], harness := (true, "56bb31998719c861994971f3ea3a8714d06acf436f2ad4b97c01279cde782a00"), looks := false }, kinds := [], alts := [], laidByText := true, laidKinds := [.data, .pinned, .pinned], laidTests := true, laidLooks := .later }
def FnExactReadTlsaCardSaid : Prop := Claim7.holds Tryd.pinned (.plain (OpenSpec.ofChange fnExactReadTlsaSpec)) fnExactReadTlsaCard

/-- THE TIED CARD OF 'laws.FnExactTlsaFor'. -/
def fnExactTlsaForCard : Claim7 := { stood := { row := fnExactTlsaForRow, standIns := [], harness := (true, "56bb31998719c861994971f3ea3a8714d06acf436f2ad4b97c01279cde782a00"), looks := false }, kinds := [], alts := [], laidByText := true, laidKinds := [.data, .data, .pinned, .pinned], laidTests := true, laidLooks := .later }
def FnExactTlsaForCardSaid : Prop := Claim7.holds Tryd.pinned (.plain (OpenSpec.ofChange fnExactTlsaForSpec)) fnExactTlsaForCard

/-- THE TIED CARD OF 'laws.FnExactMatchesTlsa'. -/
def fnExactMatchesTlsaCard : Claim7 := { stood := { row := fnExactMatchesTlsaRow, standIns := [], harness := (true, "56bb31998719c861994971f3ea3a8714d06acf436f2ad4b97c01279cde782a00"), looks := false }, kinds := [], alts := [], laidByText := true, laidKinds := [.data, .data, .pinned, .pinned], laidTests := true, laidLooks := .later }
def FnExactMatchesTlsaCardSaid : Prop := Claim7.holds Tryd.pinned (.plain (OpenSpec.ofChange fnExactMatchesTlsaSpec)) fnExactMatchesTlsaCard

/-- THE SECOND FORM's CARD OF 'laws.FnNames'. -/
def fnNamesUptoCard : Claim7 := { stood := { row := fnNamesUptoRow, standIns := [], harness := (true, "56bb31998719c861994971f3ea3a8714d06acf436f2ad4b97c01279cde782a00"), looks := false }, kinds := [], alts := [], laidByText := true, laidKinds := [.data, .data, .pinned, .pinned], laidTests := true, laidLooks := .later }
def FnNamesUptoCardSaid : Prop := Claim7.holds Tryd.pinned (.plain (OpenSpec.upto fnNamesSpec)) fnNamesUptoCard

/-- THE SECOND FORM's CARD OF 'laws.FnExactNormalName'. -/
def fnExactNormalNameUptoCard : Claim7 := { stood := { row := fnExactNormalNameUptoRow, standIns := [], harness := (true, "56bb31998719c861994971f3ea3a8714d06acf436f2ad4b97c01279cde782a00"), looks := false }, kinds := [], alts := [], laidByText := true, laidKinds := [.data, .pinned, .pinned], laidTests := true, laidLooks := .later }
def FnExactNormalNameUptoCardSaid : Prop := Claim7.holds Tryd.pinned (.plain (OpenSpec.upto fnExactNormalNameSpec)) fnExactNormalNameUptoCard

/-- THE SECOND FORM's CARD OF 'laws.FnExactTlsaFault'. -/
def fnExactTlsaFaultUptoCard : Claim7 := { stood := { row := fnExactTlsaFaultUptoRow, standIns := [], harness := (true, "56bb31998719c861994971f3ea3a8714d06acf436f2ad4b97c01279cde782a00"), looks := false }, kinds := [], alts := [], laidByText := true, laidKinds := [.data, .pinned, .pinned], laidTests := true, laidLooks := .later }
def FnExactTlsaFaultUptoCardSaid : Prop := Claim7.holds Tryd.pinned (.plain (OpenSpec.upto fnExactTlsaFaultSpec)) fnExactTlsaFaultUptoCard

/-- THE SECOND FORM's CARD OF 'laws.FnExactPackTlsa'. -/
def fnExactPackTlsaUptoCard : Claim7 := { stood := { row := fnExactPackTlsaUptoRow, standIns := [], harness := (true, "56bb31998719c861994971f3ea3a8714d06acf436f2ad4b97c01279cde782a00"), looks := false }, kinds := [], alts := [], laidByText := true, laidKinds := [.data, .pinned, .pinned], laidTests := true, laidLooks := .later }
def FnExactPackTlsaUptoCardSaid : Prop := Claim7.holds Tryd.pinned (.plain (OpenSpec.upto fnExactPackTlsaSpec)) fnExactPackTlsaUptoCard

/-- THE SECOND FORM's CARD OF 'laws.FnExactReadTlsa'. -/
def fnExactReadTlsaUptoCard : Claim7 := { stood := { row := fnExactReadTlsaUptoRow, standIns := [], harness := (true, "56bb31998719c861994971f3ea3a8714d06acf436f2ad4b97c01279cde782a00"), looks := false }, kinds := [], alts := [], laidByText := true, laidKinds := [.data, .pinned, .pinned], laidTests := true, laidLooks := .later }
def FnExactReadTlsaUptoCardSaid : Prop := Claim7.holds Tryd.pinned (.plain (OpenSpec.upto fnExactReadTlsaSpec)) fnExactReadTlsaUptoCard

/-- THE SECOND FORM's CARD OF 'laws.FnExactTlsaFor'. -/
def fnExactTlsaForUptoCard : Claim7 := { stood := { row := fnExactTlsaForUptoRow, standIns := [], harness := (true, "56bb31998719c861994971f3ea3a8714d06acf436f2ad4b97c01279cde782a00"), looks := false }, kinds := [], alts := [], laidByText := true, laidKinds := [.data, .data, .pinned, .pinned], laidTests := true, laidLooks := .later }
def FnExactTlsaForUptoCardSaid : Prop := Claim7.holds Tryd.pinned (.plain (OpenSpec.upto fnExactTlsaForSpec)) fnExactTlsaForUptoCard

/-- THE SECOND FORM's CARD OF 'laws.FnExactMatchesTlsa'. -/
def fnExactMatchesTlsaUptoCard : Claim7 := { stood := { row := fnExactMatchesTlsaUptoRow, standIns := [], harness := (true, "56bb31998719c861994971f3ea3a8714d06acf436f2ad4b97c01279cde782a00"), looks := false }, kinds := [], alts := [], laidByText := true, laidKinds := [.data, .data, .pinned, .pinned], laidTests := true, laidLooks := .later }
def FnExactMatchesTlsaUptoCardSaid : Prop := Claim7.holds Tryd.pinned (.plain (OpenSpec.upto fnExactMatchesTlsaSpec)) fnExactMatchesTlsaUptoCard
end Rows
end Go.Proofs.YtdkgiiikcapjcaaDoor
