/-
  NARROWER THAN 'FOR EVERY INPUT', by the rows' own cells (each row's printed sentence says how): FnSeals: laid · FnTurned: laid · FnExactSealData: laid · FnExactOpenRecord: laid.
  DERIVED. THE GIVEN ROWS OF THIS SEAT. 4 by the template 'for every input the law returns true; each argument reads behind the call as it read before'; 0 by the template 'total and deterministic' (their statements: YtolikdpghnokeaaDoorTotals.lean).
  GIVEN WITH THE SEED: the statements are not yours to turn. If you find one false, say at which input.
  Laid BY PROGRAM, IN A SANDBOX (cutbox-rows.mjs): the forced cells as the released guide's own fill.sh prints them over the translation 301b906df58ac420… (all of the seat's roots in one cut). By AI agents, Wed Nov 11 2026. No macro, syntax, notation, axiom, sorry.
-/
import Derived.Test.YtolikdpghnokeaaDoorChecked
import GoSem.Claim
import GoSem.ClaimJoined
import GoSem.ClaimMapViews
import Derived.JoinedTies
import Derived.KernelRfl
namespace Go.Proofs.YtolikdpghnokeaaDoor
/- THE CELL 'sum', in the pinned program and in every row, IS THE sha256 OF THE DUMP (.gsa) THAT YtolikdpghnokeaaDoorProg.lean LOADS. Nothing in Lean hashes anything: it is a label: what it is worth is what the hold of that sum in a sandbox is worth. -/
noncomputable def Tryd.pinned : Pinned := { name := "ytolikdpghnokeaadoor", sum := "301b906df58ac42064624c22e7626f2ce838bc166298d77a9af1b8dd8877ac47", checked := Tryd.checked }
namespace Rows
def none {H : Type} : Left H := { results := [], args := [] }

/- WHAT THE LISTED PACKAGE-LEVEL VARIABLES READ AS WHEN THE CALL BEGINS. Each datum BY PROGRAM (the guide's laid-datum.mjs) off the statement by which the dump's own 'gosem.cut.vars' lays the variable. In a bare row this is a premise. The card (YtolikdpghnokeaaDoorCards.lean) ties it to the program's text. -/
def laid_loop_example_g00618_impl_labels {H : Type} : DataW H := .agg [.lit (.string [115, 116, 114, 101, 97, 109]), .lit (.string [104, 101, 97, 114, 100]), .lit (.string [110, 111, 110, 99, 101]), .lit (.string [115, 105, 103, 110]), .lit (.string [109, 97, 99]), .lit (.string [115, 101, 97, 108])]

/-- 'laws.FnSeals': WHATEVER THE INPUT: true; the input reads as it did. -/
def fnSealsSpec : ChangeSpec := { name := "fnSeals", vars := ["loop.example/g00618/impl.labels"], fn := fun _ => fun
  | [d, g1] => { results := [.lit (.bool true)], args := [d], vars := [g1] }
  | _ => none }
def fnSealsRow : OpenClaim := { program := "ytolikdpghnokeaadoor", sum := "301b906df58ac42064624c22e7626f2ce838bc166298d77a9af1b8dd8877ac47", func := "loop.example/g00618/laws.FnSeals", spec := "fnSeals", unfollowed := true, recurses := true, named := ["loop.example/g00618/impl.labels"], apart := false, laid := [("loop.example/g00618/impl.labels", laid_loop_example_g00618_impl_labels)] }
def FnSealsSaid : Prop := fnSealsRow.holds Tryd.pinned (OpenSpec.ofChange fnSealsSpec)

/-- ITS FALSE NEIGHBOUR: 'it returns false'. Refute it at one input. -/
def fnSealsWrong : ChangeSpec := { name := "fnSeals", vars := ["loop.example/g00618/impl.labels"], fn := fun _ => fun
  | [d, g1] => { results := [.lit (.bool false)], args := [d], vars := [g1] }
  | _ => none }
def FnSealsWrongFalsely : Prop := fnSealsRow.holds Tryd.pinned (OpenSpec.ofChange fnSealsWrong)

/-- 'laws.FnTurned': WHATEVER THE INPUT: true; the input reads as it did. -/
def fnTurnedSpec : ChangeSpec := { name := "fnTurned", vars := ["loop.example/g00618/impl.labels"], fn := fun _ => fun
  | [d, g1] => { results := [.lit (.bool true)], args := [d], vars := [g1] }
  | _ => none }
def fnTurnedRow : OpenClaim := { program := "ytolikdpghnokeaadoor", sum := "301b906df58ac42064624c22e7626f2ce838bc166298d77a9af1b8dd8877ac47", func := "loop.example/g00618/laws.FnTurned", spec := "fnTurned", unfollowed := true, recurses := true, named := ["loop.example/g00618/impl.labels"], apart := false, laid := [("loop.example/g00618/impl.labels", laid_loop_example_g00618_impl_labels)] }
def FnTurnedSaid : Prop := fnTurnedRow.holds Tryd.pinned (OpenSpec.ofChange fnTurnedSpec)

/-- ITS FALSE NEIGHBOUR: 'it returns false'. Refute it at one input. -/
def fnTurnedWrong : ChangeSpec := { name := "fnTurned", vars := ["loop.example/g00618/impl.labels"], fn := fun _ => fun
  | [d, g1] => { results := [.lit (.bool false)], args := [d], vars := [g1] }
  | _ => none }
def FnTurnedWrongFalsely : Prop := fnTurnedRow.holds Tryd.pinned (OpenSpec.ofChange fnTurnedWrong)

/-- 'laws.FnExactSealData': WHATEVER THE INPUT: true; the input reads as it did. -/
def fnExactSealDataSpec : ChangeSpec := { name := "fnExactSealData", vars := ["loop.example/g00618/impl.labels"], fn := fun _ => fun
  | [d1, d2, d3, d4, g1] => { results := [.lit (.bool true)], args := [d1, d2, d3, d4], vars := [g1] }
  | _ => none }
def fnExactSealDataRow : OpenClaim := { program := "ytolikdpghnokeaadoor", sum := "301b906df58ac42064624c22e7626f2ce838bc166298d77a9af1b8dd8877ac47", func := "loop.example/g00618/laws.FnExactSealData", spec := "fnExactSealData", unfollowed := true, recurses := true, named := ["loop.example/g00618/impl.labels"], apart := false, laid := [("loop.example/g00618/impl.labels", laid_loop_example_g00618_impl_labels)] }
def FnExactSealDataSaid : Prop := fnExactSealDataRow.holds Tryd.pinned (OpenSpec.ofChange fnExactSealDataSpec)

/-- ITS FALSE NEIGHBOUR: 'it returns false'. Refute it at one input. -/
def fnExactSealDataWrong : ChangeSpec := { name := "fnExactSealData", vars := ["loop.example/g00618/impl.labels"], fn := fun _ => fun
  | [d1, d2, d3, d4, g1] => { results := [.lit (.bool false)], args := [d1, d2, d3, d4], vars := [g1] }
  | _ => none }
def FnExactSealDataWrongFalsely : Prop := fnExactSealDataRow.holds Tryd.pinned (OpenSpec.ofChange fnExactSealDataWrong)

/-- 'laws.FnExactOpenRecord': WHATEVER THE INPUT: true; the input reads as it did. -/
def fnExactOpenRecordSpec : ChangeSpec := { name := "fnExactOpenRecord", vars := ["loop.example/g00618/impl.labels"], fn := fun _ => fun
  | [d1, d2, d3, g1] => { results := [.lit (.bool true)], args := [d1, d2, d3], vars := [g1] }
  | _ => none }
def fnExactOpenRecordRow : OpenClaim := { program := "ytolikdpghnokeaadoor", sum := "301b906df58ac42064624c22e7626f2ce838bc166298d77a9af1b8dd8877ac47", func := "loop.example/g00618/laws.FnExactOpenRecord", spec := "fnExactOpenRecord", unfollowed := true, recurses := true, named := ["loop.example/g00618/impl.labels"], apart := false, laid := [("loop.example/g00618/impl.labels", laid_loop_example_g00618_impl_labels)] }
def FnExactOpenRecordSaid : Prop := fnExactOpenRecordRow.holds Tryd.pinned (OpenSpec.ofChange fnExactOpenRecordSpec)

/-- ITS FALSE NEIGHBOUR: 'it returns false'. Refute it at one input. -/
def fnExactOpenRecordWrong : ChangeSpec := { name := "fnExactOpenRecord", vars := ["loop.example/g00618/impl.labels"], fn := fun _ => fun
  | [d1, d2, d3, g1] => { results := [.lit (.bool false)], args := [d1, d2, d3], vars := [g1] }
  | _ => none }
def FnExactOpenRecordWrongFalsely : Prop := fnExactOpenRecordRow.holds Tryd.pinned (OpenSpec.ofChange fnExactOpenRecordWrong)

/- THE SECOND FORM. 'bulk': how many values and letters a reading holds, each counted each time it is reached (what is shared counts as often as it is met; a slice's spare places count too). A statement '..UptoSaid' is the law's where the arguments, and the package variables that the reading takes, are together of bulk at most 1048576: NARROWER than '..Said'. Prove '..Said' where nothing that the law and all that it calls make is longer than what came in: it says more and counts as full. Else prove '..UptoSaid'. A law counts once. -/
mutual
def uptoBulk {H : Type} : DataW H → Nat
  | .lit (.string bytes) => bytes.length + 1
  | .lit _ => 1
  | .nil => 1
  | .ptr d => uptoBulk d + 1
  | .slice elems spare => uptoBulkAll elems + uptoBulkAll spare + 1
  | .agg parts => uptoBulkAll parts + 1
  | .iface _ d => uptoBulk d + 1
  | .map entries => uptoBulkEntries entries + 1
  | .held _ => 1
def uptoBulkAll {H : Type} : List (DataW H) → Nat
  | [] => 0
  | d :: r => uptoBulk d + uptoBulkAll r
def uptoBulkEntries {H : Type} : List (Lit × DataW H) → Nat
  | [] => 0
  | x :: r => uptoBulkEntry x + uptoBulkEntries r
def uptoBulkEntry {H : Type} : Lit × DataW H → Nat
  | (.string bytes, d) => bytes.length + uptoBulk d + 1
  | (_, d) => uptoBulk d + 1
 end
def uptoSmall : (H : Type) → List (DataW H) → Bool := fun _ ds => decide (uptoBulkAll ds ≤ 1048576)
def OpenSpec.upto (s : _root_.Go.ChangeSpec) : _root_.Go.OpenSpec := { _root_.Go.OpenSpec.ofChange s with cond := some uptoSmall }

/-- 'laws.FnSeals', WHERE WHAT IT READS IS OF BULK AT MOST 1048576: true; the input reads as it did. -/
def fnSealsUptoRow : OpenClaim := { program := "ytolikdpghnokeaadoor", sum := "301b906df58ac42064624c22e7626f2ce838bc166298d77a9af1b8dd8877ac47", func := "loop.example/g00618/laws.FnSeals", spec := "fnSeals", unfollowed := true, recurses := true, named := ["loop.example/g00618/impl.labels"], apart := false, laid := [("loop.example/g00618/impl.labels", laid_loop_example_g00618_impl_labels)], narrowed := true }
def FnSealsUptoSaid : Prop := fnSealsUptoRow.holds Tryd.pinned (OpenSpec.upto fnSealsSpec)

/-- 'laws.FnTurned', WHERE WHAT IT READS IS OF BULK AT MOST 1048576: true; the input reads as it did. -/
def fnTurnedUptoRow : OpenClaim := { program := "ytolikdpghnokeaadoor", sum := "301b906df58ac42064624c22e7626f2ce838bc166298d77a9af1b8dd8877ac47", func := "loop.example/g00618/laws.FnTurned", spec := "fnTurned", unfollowed := true, recurses := true, named := ["loop.example/g00618/impl.labels"], apart := false, laid := [("loop.example/g00618/impl.labels", laid_loop_example_g00618_impl_labels)], narrowed := true }
def FnTurnedUptoSaid : Prop := fnTurnedUptoRow.holds Tryd.pinned (OpenSpec.upto fnTurnedSpec)

/-- 'laws.FnExactSealData', WHERE WHAT IT READS IS OF BULK AT MOST 1048576: true; the input reads as it did. -/
def fnExactSealDataUptoRow : OpenClaim := { program := "ytolikdpghnokeaadoor", sum := "301b906df58ac42064624c22e7626f2ce838bc166298d77a9af1b8dd8877ac47", func := "loop.example/g00618/laws.FnExactSealData", spec := "fnExactSealData", unfollowed := true, recurses := true, named := ["loop.example/g00618/impl.labels"], apart := false, laid := [("loop.example/g00618/impl.labels", laid_loop_example_g00618_impl_labels)], narrowed := true }
def FnExactSealDataUptoSaid : Prop := fnExactSealDataUptoRow.holds Tryd.pinned (OpenSpec.upto fnExactSealDataSpec)

/-- 'laws.FnExactOpenRecord', WHERE WHAT IT READS IS OF BULK AT MOST 1048576: true; the input reads as it did. -/
def fnExactOpenRecordUptoRow : OpenClaim := { program := "ytolikdpghnokeaadoor", sum := "301b906df58ac42064624c22e7626f2ce838bc166298d77a9af1b8dd8877ac47", func := "loop.example/g00618/laws.FnExactOpenRecord", spec := "fnExactOpenRecord", unfollowed := true, recurses := true, named := ["loop.example/g00618/impl.labels"], apart := false, laid := [("loop.example/g00618/impl.labels", laid_loop_example_g00618_impl_labels)], narrowed := true }
def FnExactOpenRecordUptoSaid : Prop := fnExactOpenRecordUptoRow.holds Tryd.pinned (OpenSpec.upto fnExactOpenRecordSpec)

end Rows
end Go.Proofs.YtolikdpghnokeaaDoor
