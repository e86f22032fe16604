/-
  DERIVED. GIVEN WITH THE SEED: THE CARDS: each row of YtolikdpghnokeaaDoorRows.lean that lists a variable, with what it lists TIED to the program's text (the seventh form; the later family's looks); each row that meets fmt, with fmt's text TOLD by the authors' own Lean function (tested against real Go, not proved from fmt's source: count such statements apart). THE CARD IS WHAT COUNTS. Prove the row's statement (the work); the ties are given (YtolikdpghnokeaaDoorTie.lean); close each card by the builder's one call (the guide's Derived/Test/ToyasCard.lean, 'card_holds'). Laid BY PROGRAM, IN A SANDBOX (cutbox-door.mjs). By AI agents, Wed Nov 11 2026. No macro, syntax, notation, axiom, sorry.
-/
import Derived.Test.YtolikdpghnokeaaDoorRows
import GoSem.ClaimSeven
namespace Go.Proofs.YtolikdpghnokeaaDoor
namespace Rows

/-- THE TIED CARD OF 'laws.FnSeals'. -/
def fnSealsCard : Claim7 := { stood := { row := fnSealsRow, standIns := [], harness := (true, "2ef7d0db2deaa094760a0decdd6f3808620cd5f600fb20599f0a2d513f7a7ef5"), looks := false }, kinds := [], alts := [], laidByText := true, laidKinds := [.data], laidTests := true, laidLooks := .later }
def FnSealsCardSaid : Prop := Claim7.holds Tryd.pinned (.plain (OpenSpec.ofChange fnSealsSpec)) fnSealsCard

/-- THE TIED CARD OF 'laws.FnTurned'. -/
def fnTurnedCard : Claim7 := { stood := { row := fnTurnedRow, standIns := [], harness := (true, "2ef7d0db2deaa094760a0decdd6f3808620cd5f600fb20599f0a2d513f7a7ef5"), looks := false }, kinds := [], alts := [], laidByText := true, laidKinds := [.data], laidTests := true, laidLooks := .later }
def FnTurnedCardSaid : Prop := Claim7.holds Tryd.pinned (.plain (OpenSpec.ofChange fnTurnedSpec)) fnTurnedCard

/-- THE TIED CARD OF 'laws.FnExactSealData'. -/
def fnExactSealDataCard : Claim7 := { stood := { row := fnExactSealDataRow, standIns := [], harness := (true, "2ef7d0db2deaa094760a0decdd6f3808620cd5f600fb20599f0a2d513f7a7ef5"), looks := false }, kinds := [], alts := [], laidByText := true, laidKinds := [.data], laidTests := true, laidLooks := .later }
def FnExactSealDataCardSaid : Prop := Claim7.holds Tryd.pinned (.plain (OpenSpec.ofChange fnExactSealDataSpec)) fnExactSealDataCard

/-- THE TIED CARD OF 'laws.FnExactOpenRecord'. -/
def fnExactOpenRecordCard : Claim7 := { stood := { row := fnExactOpenRecordRow, standIns := [], harness := (true, "2ef7d0db2deaa094760a0decdd6f3808620cd5f600fb20599f0a2d513f7a7ef5"), looks := false }, kinds := [], alts := [], laidByText := true, laidKinds := [.data], laidTests := true, laidLooks := .later }
def FnExactOpenRecordCardSaid : Prop := Claim7.holds Tryd.pinned (.plain (OpenSpec.ofChange fnExactOpenRecordSpec)) fnExactOpenRecordCard

/-- THE SECOND FORM's CARD OF 'laws.FnSeals'. -/
def fnSealsUptoCard : Claim7 := { stood := { row := fnSealsUptoRow, standIns := [], harness := (true, "2ef7d0db2deaa094760a0decdd6f3808620cd5f600fb20599f0a2d513f7a7ef5"), looks := false }, kinds := [], alts := [], laidByText := true, laidKinds := [.data], laidTests := true, laidLooks := .later }
def FnSealsUptoCardSaid : Prop := Claim7.holds Tryd.pinned (.plain (OpenSpec.upto fnSealsSpec)) fnSealsUptoCard

/-- THE SECOND FORM's CARD OF 'laws.FnTurned'. -/
def fnTurnedUptoCard : Claim7 := { stood := { row := fnTurnedUptoRow, standIns := [], harness := (true, "2ef7d0db2deaa094760a0decdd6f3808620cd5f600fb20599f0a2d513f7a7ef5"), looks := false }, kinds := [], alts := [], laidByText := true, laidKinds := [.data], laidTests := true, laidLooks := .later }
def FnTurnedUptoCardSaid : Prop := Claim7.holds Tryd.pinned (.plain (OpenSpec.upto fnTurnedSpec)) fnTurnedUptoCard

/-- THE SECOND FORM's CARD OF 'laws.FnExactSealData'. -/
def fnExactSealDataUptoCard : Claim7 := { stood := { row := fnExactSealDataUptoRow, standIns := [], harness := (true, "2ef7d0db2deaa094760a0decdd6f3808620cd5f600fb20599f0a2d513f7a7ef5"), looks := false }, kinds := [], alts := [], laidByText := true, laidKinds := [.data], laidTests := true, laidLooks := .later }
def FnExactSealDataUptoCardSaid : Prop := Claim7.holds Tryd.pinned (.plain (OpenSpec.upto fnExactSealDataSpec)) fnExactSealDataUptoCard

/-- THE SECOND FORM's CARD OF 'laws.FnExactOpenRecord'. -/
def fnExactOpenRecordUptoCard : Claim7 := { stood := { row := fnExactOpenRecordUptoRow, standIns := [], harness := (true, "2ef7d0db2deaa094760a0decdd6f3808620cd5f600fb20599f0a2d513f7a7ef5"), looks := false }, kinds := [], alts := [], laidByText := true, laidKinds := [.data], laidTests := true, laidLooks := .later }
def FnExactOpenRecordUptoCardSaid : Prop := Claim7.holds Tryd.pinned (.plain (OpenSpec.upto fnExactOpenRecordSpec)) fnExactOpenRecordUptoCard
end Rows
end Go.Proofs.YtolikdpghnokeaaDoor
