/-
  NARROWER THAN 'FOR EVERY INPUT', by the rows' own cells (each row's printed sentence says how): FnSums: laid · FnSigns: laid · FnSeals: laid · FnTurned: laid · FnExactStreamOf: laid · FnExactTranscript: laid · FnExactNonceOf: laid · FnExactSignSum: laid · FnExactCheckSign: laid · FnExactSealData: laid · FnExactOpenRecord: laid.
  DERIVED. THE GIVEN ROWS OF THIS SEAT. 11 by the template 'for every input the law returns true; each argument reads behind the call as it read before'; 0 by the template 'total and deterministic' (their statements: YtjlhldndomaknaaDoorTotals.lean).
  GIVEN WITH THE SEED: the statements are not yours to turn. If you find one false, say at which input.
  Laid BY PROGRAM, IN A SANDBOX (cutbox-rows.mjs): the forced cells as the released guide's own fill.sh prints them over the translation c92e2f9fe7e0170e… (all of the seat's roots in one cut). By AI agents, Wed Nov 11 2026. No macro, syntax, notation, axiom, sorry.
-/
import Derived.Test.YtjlhldndomaknaaDoorChecked
import GoSem.Claim
import GoSem.ClaimJoined
import GoSem.ClaimMapViews
import Derived.JoinedTies
import Derived.KernelRfl
namespace Go.Proofs.YtjlhldndomaknaaDoor
/- THE CELL 'sum', in the pinned program and in every row, IS THE sha256 OF THE DUMP (.gsa) THAT YtjlhldndomaknaaDoorProg.lean LOADS. Nothing in Lean hashes anything: it is a label: what it is worth is what the hold of that sum in a sandbox is worth. -/
noncomputable def Tryd.pinned : Pinned := { name := "ytjlhldndomaknaadoor", sum := "c92e2f9fe7e0170e930b30af24343d99f8e6c18e23f2be534fbf4e483185d94b", checked := Tryd.checked }
namespace Rows
def none {H : Type} : Left H := { results := [], args := [] }

/- WHAT THE LISTED PACKAGE-LEVEL VARIABLES READ AS WHEN THE CALL BEGINS. Each datum BY PROGRAM (the guide's laid-datum.mjs) off the statement by which the dump's own 'gosem.cut.vars' lays the variable. In a bare row this is a premise. The card (YtjlhldndomaknaaDoorCards.lean) ties it to the program's text. -/
def laid_loop_example_g00618_impl_labels {H : Type} : DataW H := .agg [.lit (.string [115, 116, 114, 101, 97, 109]), .lit (.string [104, 101, 97, 114, 100]), .lit (.string [110, 111, 110, 99, 101]), .lit (.string [115, 105, 103, 110]), .lit (.string [109, 97, 99]), .lit (.string [115, 101, 97, 108]), .lit (.string [115, 112, 107, 105])]
def laid_errors_errorType {H : Type} : DataW H := .iface "internal/reflectlite.rtype" (.agg [.ptr (.lit (.string [101, 114, 114, 111, 114]))])

/-- 'laws.FnSums': WHATEVER THE INPUT: true; the input reads as it did. -/
def fnSumsSpec : ChangeSpec := { name := "fnSums", vars := ["loop.example/g00618/impl.labels"], fn := fun _ => fun
  | [d, g1] => { results := [.lit (.bool true)], args := [d], vars := [g1] }
  | _ => none }
def fnSumsRow : OpenClaim := { program := "ytjlhldndomaknaadoor", sum := "c92e2f9fe7e0170e930b30af24343d99f8e6c18e23f2be534fbf4e483185d94b", func := "loop.example/g00618/laws.FnSums", spec := "fnSums", named := ["loop.example/g00618/impl.labels"], apart := false, laid := [("loop.example/g00618/impl.labels", laid_loop_example_g00618_impl_labels)] }
def FnSumsSaid : Prop := fnSumsRow.holds Tryd.pinned (OpenSpec.ofChange fnSumsSpec)

/-- ITS FALSE NEIGHBOUR: 'it returns false'. Refute it at one input. -/
def fnSumsWrong : ChangeSpec := { name := "fnSums", vars := ["loop.example/g00618/impl.labels"], fn := fun _ => fun
  | [d, g1] => { results := [.lit (.bool false)], args := [d], vars := [g1] }
  | _ => none }
def FnSumsWrongFalsely : Prop := fnSumsRow.holds Tryd.pinned (OpenSpec.ofChange fnSumsWrong)

/-- 'laws.FnSigns': WHATEVER THE INPUT: true; the input reads as it did. -/
def fnSignsSpec : ChangeSpec := { name := "fnSigns", vars := ["loop.example/g00618/impl.labels"], fn := fun _ => fun
  | [d, g1] => { results := [.lit (.bool true)], args := [d], vars := [g1] }
  | _ => none }
def fnSignsRow : OpenClaim := { program := "ytjlhldndomaknaadoor", sum := "c92e2f9fe7e0170e930b30af24343d99f8e6c18e23f2be534fbf4e483185d94b", func := "loop.example/g00618/laws.FnSigns", spec := "fnSigns", inPlace := ["internal/reflectlite.ValueOf", "(internal/reflectlite.Value).Type", "(internal/reflectlite.Value).IsNil", "internal/reflectlite.TypeOf", "(internal/reflectlite.Value).Elem", "(internal/reflectlite.Value).Set"], unfollowed := true, recurses := true, named := ["errors.errorType", "loop.example/g00618/impl.labels"], apart := false, laid := [("errors.errorType", laid_errors_errorType), ("loop.example/g00618/impl.labels", laid_loop_example_g00618_impl_labels)] }
def FnSignsSaid : Prop := fnSignsRow.holds Tryd.pinned (OpenSpec.ofChange fnSignsSpec)

/-- ITS FALSE NEIGHBOUR: 'it returns false'. Refute it at one input. -/
def fnSignsWrong : ChangeSpec := { name := "fnSigns", vars := ["loop.example/g00618/impl.labels"], fn := fun _ => fun
  | [d, g1] => { results := [.lit (.bool false)], args := [d], vars := [g1] }
  | _ => none }
def FnSignsWrongFalsely : Prop := fnSignsRow.holds Tryd.pinned (OpenSpec.ofChange fnSignsWrong)

/-- 'laws.FnSeals': WHATEVER THE INPUT: true; the input reads as it did. -/
def fnSealsSpec : ChangeSpec := { name := "fnSeals", vars := ["loop.example/g00618/impl.labels"], fn := fun _ => fun
  | [d, g1] => { results := [.lit (.bool true)], args := [d], vars := [g1] }
  | _ => none }
def fnSealsRow : OpenClaim := { program := "ytjlhldndomaknaadoor", sum := "c92e2f9fe7e0170e930b30af24343d99f8e6c18e23f2be534fbf4e483185d94b", func := "loop.example/g00618/laws.FnSeals", spec := "fnSeals", unfollowed := true, recurses := true, named := ["loop.example/g00618/impl.labels"], apart := false, laid := [("loop.example/g00618/impl.labels", laid_loop_example_g00618_impl_labels)] }
def FnSealsSaid : Prop := fnSealsRow.holds Tryd.pinned (OpenSpec.ofChange fnSealsSpec)

/-- ITS FALSE NEIGHBOUR: 'it returns false'. Refute it at one input. -/
def fnSealsWrong : ChangeSpec := { name := "fnSeals", vars := ["loop.example/g00618/impl.labels"], fn := fun _ => fun
  | [d, g1] => { results := [.lit (.bool false)], args := [d], vars := [g1] }
  | _ => none }
def FnSealsWrongFalsely : Prop := fnSealsRow.holds Tryd.pinned (OpenSpec.ofChange fnSealsWrong)

/-- 'laws.FnTurned': WHATEVER THE INPUT: true; the input reads as it did. -/
def fnTurnedSpec : ChangeSpec := { name := "fnTurned", vars := ["loop.example/g00618/impl.labels"], fn := fun _ => fun
  | [d, g1] => { results := [.lit (.bool true)], args := [d], vars := [g1] }
  | _ => none }
def fnTurnedRow : OpenClaim := { program := "ytjlhldndomaknaadoor", sum := "c92e2f9fe7e0170e930b30af24343d99f8e6c18e23f2be534fbf4e483185d94b", func := "loop.example/g00618/laws.FnTurned", spec := "fnTurned", unfollowed := true, recurses := true, named := ["loop.example/g00618/impl.labels"], apart := false, laid := [("loop.example/g00618/impl.labels", laid_loop_example_g00618_impl_labels)] }
def FnTurnedSaid : Prop := fnTurnedRow.holds Tryd.pinned (OpenSpec.ofChange fnTurnedSpec)

/-- ITS FALSE NEIGHBOUR: 'it returns false'. Refute it at one input. -/
def fnTurnedWrong : ChangeSpec := { name := "fnTurned", vars := ["loop.example/g00618/impl.labels"], fn := fun _ => fun
  | [d, g1] => { results := [.lit (.bool false)], args := [d], vars := [g1] }
  | _ => none }
def FnTurnedWrongFalsely : Prop := fnTurnedRow.holds Tryd.pinned (OpenSpec.ofChange fnTurnedWrong)

/-- 'laws.FnExactStreamOf': WHATEVER THE INPUT: true; the input reads as it did. -/
def fnExactStreamOfSpec : ChangeSpec := { name := "fnExactStreamOf", vars := ["loop.example/g00618/impl.labels"], fn := fun _ => fun
  | [d1, d2, d3, g1] => { results := [.lit (.bool true)], args := [d1, d2, d3], vars := [g1] }
  | _ => none }
def fnExactStreamOfRow : OpenClaim := { program := "ytjlhldndomaknaadoor", sum := "c92e2f9fe7e0170e930b30af24343d99f8e6c18e23f2be534fbf4e483185d94b", func := "loop.example/g00618/laws.FnExactStreamOf", spec := "fnExactStreamOf", named := ["loop.example/g00618/impl.labels"], apart := false, laid := [("loop.example/g00618/impl.labels", laid_loop_example_g00618_impl_labels)] }
def FnExactStreamOfSaid : Prop := fnExactStreamOfRow.holds Tryd.pinned (OpenSpec.ofChange fnExactStreamOfSpec)

/-- ITS FALSE NEIGHBOUR: 'it returns false'. Refute it at one input. -/
def fnExactStreamOfWrong : ChangeSpec := { name := "fnExactStreamOf", vars := ["loop.example/g00618/impl.labels"], fn := fun _ => fun
  | [d1, d2, d3, g1] => { results := [.lit (.bool false)], args := [d1, d2, d3], vars := [g1] }
  | _ => none }
def FnExactStreamOfWrongFalsely : Prop := fnExactStreamOfRow.holds Tryd.pinned (OpenSpec.ofChange fnExactStreamOfWrong)

/-- 'laws.FnExactTranscript': WHATEVER THE INPUT: true; the input reads as it did. -/
def fnExactTranscriptSpec : ChangeSpec := { name := "fnExactTranscript", vars := ["loop.example/g00618/impl.labels"], fn := fun _ => fun
  | [d, g1] => { results := [.lit (.bool true)], args := [d], vars := [g1] }
  | _ => none }
def fnExactTranscriptRow : OpenClaim := { program := "ytjlhldndomaknaadoor", sum := "c92e2f9fe7e0170e930b30af24343d99f8e6c18e23f2be534fbf4e483185d94b", func := "loop.example/g00618/laws.FnExactTranscript", spec := "fnExactTranscript", named := ["loop.example/g00618/impl.labels"], apart := false, laid := [("loop.example/g00618/impl.labels", laid_loop_example_g00618_impl_labels)] }
def FnExactTranscriptSaid : Prop := fnExactTranscriptRow.holds Tryd.pinned (OpenSpec.ofChange fnExactTranscriptSpec)

/-- ITS FALSE NEIGHBOUR: 'it returns false'. Refute it at one input. -/
def fnExactTranscriptWrong : ChangeSpec := { name := "fnExactTranscript", vars := ["loop.example/g00618/impl.labels"], fn := fun _ => fun
  | [d, g1] => { results := [.lit (.bool false)], args := [d], vars := [g1] }
  | _ => none }
def FnExactTranscriptWrongFalsely : Prop := fnExactTranscriptRow.holds Tryd.pinned (OpenSpec.ofChange fnExactTranscriptWrong)

/-- 'laws.FnExactNonceOf': WHATEVER THE INPUT: true; the input reads as it did. -/
def fnExactNonceOfSpec : ChangeSpec := { name := "fnExactNonceOf", vars := ["loop.example/g00618/impl.labels"], fn := fun _ => fun
  | [d1, d2, g1] => { results := [.lit (.bool true)], args := [d1, d2], vars := [g1] }
  | _ => none }
def fnExactNonceOfRow : OpenClaim := { program := "ytjlhldndomaknaadoor", sum := "c92e2f9fe7e0170e930b30af24343d99f8e6c18e23f2be534fbf4e483185d94b", func := "loop.example/g00618/laws.FnExactNonceOf", spec := "fnExactNonceOf", inPlace := ["internal/reflectlite.ValueOf", "(internal/reflectlite.Value).Type", "(internal/reflectlite.Value).IsNil", "internal/reflectlite.TypeOf", "(internal/reflectlite.Value).Elem", "(internal/reflectlite.Value).Set"], unfollowed := true, recurses := true, named := ["errors.errorType", "loop.example/g00618/impl.labels"], apart := false, laid := [("errors.errorType", laid_errors_errorType), ("loop.example/g00618/impl.labels", laid_loop_example_g00618_impl_labels)] }
def FnExactNonceOfSaid : Prop := fnExactNonceOfRow.holds Tryd.pinned (OpenSpec.ofChange fnExactNonceOfSpec)

/-- ITS FALSE NEIGHBOUR: 'it returns false'. Refute it at one input. -/
def fnExactNonceOfWrong : ChangeSpec := { name := "fnExactNonceOf", vars := ["loop.example/g00618/impl.labels"], fn := fun _ => fun
  | [d1, d2, g1] => { results := [.lit (.bool false)], args := [d1, d2], vars := [g1] }
  | _ => none }
def FnExactNonceOfWrongFalsely : Prop := fnExactNonceOfRow.holds Tryd.pinned (OpenSpec.ofChange fnExactNonceOfWrong)

/-- 'laws.FnExactSignSum': WHATEVER THE INPUT: true; the input reads as it did. -/
def fnExactSignSumSpec : ChangeSpec := { name := "fnExactSignSum", vars := ["loop.example/g00618/impl.labels"], fn := fun _ => fun
  | [d1, d2, g1] => { results := [.lit (.bool true)], args := [d1, d2], vars := [g1] }
  | _ => none }
def fnExactSignSumRow : OpenClaim := { program := "ytjlhldndomaknaadoor", sum := "c92e2f9fe7e0170e930b30af24343d99f8e6c18e23f2be534fbf4e483185d94b", func := "loop.example/g00618/laws.FnExactSignSum", spec := "fnExactSignSum", inPlace := ["internal/reflectlite.ValueOf", "(internal/reflectlite.Value).Type", "(internal/reflectlite.Value).IsNil", "internal/reflectlite.TypeOf", "(internal/reflectlite.Value).Elem", "(internal/reflectlite.Value).Set"], unfollowed := true, recurses := true, named := ["errors.errorType", "loop.example/g00618/impl.labels"], apart := false, laid := [("errors.errorType", laid_errors_errorType), ("loop.example/g00618/impl.labels", laid_loop_example_g00618_impl_labels)] }
def FnExactSignSumSaid : Prop := fnExactSignSumRow.holds Tryd.pinned (OpenSpec.ofChange fnExactSignSumSpec)

/-- ITS FALSE NEIGHBOUR: 'it returns false'. Refute it at one input. -/
def fnExactSignSumWrong : ChangeSpec := { name := "fnExactSignSum", vars := ["loop.example/g00618/impl.labels"], fn := fun _ => fun
  | [d1, d2, g1] => { results := [.lit (.bool false)], args := [d1, d2], vars := [g1] }
  | _ => none }
def FnExactSignSumWrongFalsely : Prop := fnExactSignSumRow.holds Tryd.pinned (OpenSpec.ofChange fnExactSignSumWrong)

/-- 'laws.FnExactCheckSign': WHATEVER THE INPUT: true; the input reads as it did. -/
def fnExactCheckSignSpec : ChangeSpec := { name := "fnExactCheckSign", vars := ["loop.example/g00618/impl.labels"], fn := fun _ => fun
  | [d1, d2, d3, g1] => { results := [.lit (.bool true)], args := [d1, d2, d3], vars := [g1] }
  | _ => none }
def fnExactCheckSignRow : OpenClaim := { program := "ytjlhldndomaknaadoor", sum := "c92e2f9fe7e0170e930b30af24343d99f8e6c18e23f2be534fbf4e483185d94b", func := "loop.example/g00618/laws.FnExactCheckSign", spec := "fnExactCheckSign", named := ["loop.example/g00618/impl.labels"], apart := false, laid := [("loop.example/g00618/impl.labels", laid_loop_example_g00618_impl_labels)] }
def FnExactCheckSignSaid : Prop := fnExactCheckSignRow.holds Tryd.pinned (OpenSpec.ofChange fnExactCheckSignSpec)

/-- ITS FALSE NEIGHBOUR: 'it returns false'. Refute it at one input. -/
def fnExactCheckSignWrong : ChangeSpec := { name := "fnExactCheckSign", vars := ["loop.example/g00618/impl.labels"], fn := fun _ => fun
  | [d1, d2, d3, g1] => { results := [.lit (.bool false)], args := [d1, d2, d3], vars := [g1] }
  | _ => none }
def FnExactCheckSignWrongFalsely : Prop := fnExactCheckSignRow.holds Tryd.pinned (OpenSpec.ofChange fnExactCheckSignWrong)

/-- 'laws.FnExactSealData': WHATEVER THE INPUT: true; the input reads as it did. -/
def fnExactSealDataSpec : ChangeSpec := { name := "fnExactSealData", vars := ["loop.example/g00618/impl.labels"], fn := fun _ => fun
  | [d1, d2, d3, d4, g1] => { results := [.lit (.bool true)], args := [d1, d2, d3, d4], vars := [g1] }
  | _ => none }
def fnExactSealDataRow : OpenClaim := { program := "ytjlhldndomaknaadoor", sum := "c92e2f9fe7e0170e930b30af24343d99f8e6c18e23f2be534fbf4e483185d94b", func := "loop.example/g00618/laws.FnExactSealData", spec := "fnExactSealData", unfollowed := true, recurses := true, named := ["loop.example/g00618/impl.labels"], apart := false, laid := [("loop.example/g00618/impl.labels", laid_loop_example_g00618_impl_labels)] }
def FnExactSealDataSaid : Prop := fnExactSealDataRow.holds Tryd.pinned (OpenSpec.ofChange fnExactSealDataSpec)

/-- ITS FALSE NEIGHBOUR: 'it returns false'. Refute it at one input. -/
def fnExactSealDataWrong : ChangeSpec := { name := "fnExactSealData", vars := ["loop.example/g00618/impl.labels"], fn := fun _ => fun
  | [d1, d2, d3, d4, g1] => { results := [.lit (.bool false)], args := [d1, d2, d3, d4], vars := [g1] }
  | _ => none }
def FnExactSealDataWrongFalsely : Prop := fnExactSealDataRow.holds Tryd.pinned (OpenSpec.ofChange fnExactSealDataWrong)

/-- 'laws.FnExactOpenRecord': WHATEVER THE INPUT: true; the input reads as it did. -/
def fnExactOpenRecordSpec : ChangeSpec := { name := "fnExactOpenRecord", vars := ["loop.example/g00618/impl.labels"], fn := fun _ => fun
  | [d1, d2, d3, g1] => { results := [.lit (.bool true)], args := [d1, d2, d3], vars := [g1] }
  | _ => none }
def fnExactOpenRecordRow : OpenClaim := { program := "ytjlhldndomaknaadoor", sum := "c92e2f9fe7e0170e930b30af24343d99f8e6c18e23f2be534fbf4e483185d94b", func := "loop.example/g00618/laws.FnExactOpenRecord", spec := "fnExactOpenRecord", unfollowed := true, recurses := true, named := ["loop.example/g00618/impl.labels"], apart := false, laid := [("loop.example/g00618/impl.labels", laid_loop_example_g00618_impl_labels)] }
def FnExactOpenRecordSaid : Prop := fnExactOpenRecordRow.holds Tryd.pinned (OpenSpec.ofChange fnExactOpenRecordSpec)

/-- ITS FALSE NEIGHBOUR: 'it returns false'. Refute it at one input. -/
def fnExactOpenRecordWrong : ChangeSpec := { name := "fnExactOpenRecord", vars := ["loop.example/g00618/impl.labels"], fn := fun _ => fun
  | [d1, d2, d3, g1] => { results := [.lit (.bool false)], args := [d1, d2, d3], vars := [g1] }
  | _ => none }
def FnExactOpenRecordWrongFalsely : Prop := fnExactOpenRecordRow.holds Tryd.pinned (OpenSpec.ofChange fnExactOpenRecordWrong)

/- THE SECOND FORM. 'bulk': how many values and letters a reading holds, each counted each time it is reached (what is shared counts as often as it is met; a slice's spare places count too). A statement '..UptoSaid' is the law's where the arguments, and the package variables that the reading takes, are together of bulk at most 1048576: NARROWER than '..Said'. Prove '..Said' where nothing that the law and all that it calls make is longer than what came in: it says more and counts as full. Else prove '..UptoSaid'. A law counts once. -/
mutual
def uptoBulk {H : Type} : DataW H → Nat
  | .lit (.string bytes) => bytes.length + 1
  | .lit _ => 1
  | .nil => 1
  | .ptr d => uptoBulk d + 1
  | .slice elems spare => uptoBulkAll elems + uptoBulkAll spare + 1
  | .agg parts => uptoBulkAll parts + 1
  | .iface _ d => uptoBulk d + 1
  | .map entries => uptoBulkEntries entries + 1
  | .held _ => 1
def uptoBulkAll {H : Type} : List (DataW H) → Nat
  | [] => 0
  | d :: r => uptoBulk d + uptoBulkAll r
def uptoBulkEntries {H : Type} : List (Lit × DataW H) → Nat
  | [] => 0
  | x :: r => uptoBulkEntry x + uptoBulkEntries r
def uptoBulkEntry {H : Type} : Lit × DataW H → Nat
  | (.string bytes, d) => bytes.length + uptoBulk d + 1
  | (_, d) => uptoBulk d + 1
 end
def uptoSmall : (H : Type) → List (DataW H) → Bool := fun _ ds => decide (uptoBulkAll ds ≤ 1048576)
def OpenSpec.upto (s : _root_.Go.ChangeSpec) : _root_.Go.OpenSpec := { _root_.Go.OpenSpec.ofChange s with cond := some uptoSmall }

/-- 'laws.FnSums', WHERE WHAT IT READS IS OF BULK AT MOST 1048576: true; the input reads as it did. -/
def fnSumsUptoRow : OpenClaim := { program := "ytjlhldndomaknaadoor", sum := "c92e2f9fe7e0170e930b30af24343d99f8e6c18e23f2be534fbf4e483185d94b", func := "loop.example/g00618/laws.FnSums", spec := "fnSums", named := ["loop.example/g00618/impl.labels"], apart := false, laid := [("loop.example/g00618/impl.labels", laid_loop_example_g00618_impl_labels)], narrowed := true }
def FnSumsUptoSaid : Prop := fnSumsUptoRow.holds Tryd.pinned (OpenSpec.upto fnSumsSpec)

/-- 'laws.FnSigns', WHERE WHAT IT READS IS OF BULK AT MOST 1048576: true; the input reads as it did. -/
def fnSignsUptoRow : OpenClaim := { program := "ytjlhldndomaknaadoor", sum := "c92e2f9fe7e0170e930b30af24343d99f8e6c18e23f2be534fbf4e483185d94b", func := "loop.example/g00618/laws.FnSigns", spec := "fnSigns", inPlace := ["internal/reflectlite.ValueOf", "(internal/reflectlite.Value).Type", "(internal/reflectlite.Value).IsNil", "internal/reflectlite.TypeOf", "(internal/reflectlite.Value).Elem", "(internal/reflectlite.Value).Set"], unfollowed := true, recurses := true, named := ["errors.errorType", "loop.example/g00618/impl.labels"], apart := false, laid := [("errors.errorType", laid_errors_errorType), ("loop.example/g00618/impl.labels", laid_loop_example_g00618_impl_labels)], narrowed := true }
def FnSignsUptoSaid : Prop := fnSignsUptoRow.holds Tryd.pinned (OpenSpec.upto fnSignsSpec)

/-- 'laws.FnSeals', WHERE WHAT IT READS IS OF BULK AT MOST 1048576: true; the input reads as it did. -/
def fnSealsUptoRow : OpenClaim := { program := "ytjlhldndomaknaadoor", sum := "c92e2f9fe7e0170e930b30af24343d99f8e6c18e23f2be534fbf4e483185d94b", func := "loop.example/g00618/laws.FnSeals", spec := "fnSeals", unfollowed := true, recurses := true, named := ["loop.example/g00618/impl.labels"], apart := false, laid := [("loop.example/g00618/impl.labels", laid_loop_example_g00618_impl_labels)], narrowed := true }
def FnSealsUptoSaid : Prop := fnSealsUptoRow.holds Tryd.pinned (OpenSpec.upto fnSealsSpec)

/-- 'laws.FnTurned', WHERE WHAT IT READS IS OF BULK AT MOST 1048576: true; the input reads as it did. -/
def fnTurnedUptoRow : OpenClaim := { program := "ytjlhldndomaknaadoor", sum := "c92e2f9fe7e0170e930b30af24343d99f8e6c18e23f2be534fbf4e483185d94b", func := "loop.example/g00618/laws.FnTurned", spec := "fnTurned", unfollowed := true, recurses := true, named := ["loop.example/g00618/impl.labels"], apart := false, laid := [("loop.example/g00618/impl.labels", laid_loop_example_g00618_impl_labels)], narrowed := true }
def FnTurnedUptoSaid : Prop := fnTurnedUptoRow.holds Tryd.pinned (OpenSpec.upto fnTurnedSpec)

/-- 'laws.FnExactStreamOf', WHERE WHAT IT READS IS OF BULK AT MOST 1048576: true; the input reads as it did. -/
def fnExactStreamOfUptoRow : OpenClaim := { program := "ytjlhldndomaknaadoor", sum := "c92e2f9fe7e0170e930b30af24343d99f8e6c18e23f2be534fbf4e483185d94b", func := "loop.example/g00618/laws.FnExactStreamOf", spec := "fnExactStreamOf", named := ["loop.example/g00618/impl.labels"], apart := false, laid := [("loop.example/g00618/impl.labels", laid_loop_example_g00618_impl_labels)], narrowed := true }
def FnExactStreamOfUptoSaid : Prop := fnExactStreamOfUptoRow.holds Tryd.pinned (OpenSpec.upto fnExactStreamOfSpec)

/-- 'laws.FnExactTranscript', WHERE WHAT IT READS IS OF BULK AT MOST 1048576: true; the input reads as it did. -/
def fnExactTranscriptUptoRow : OpenClaim := { program := "ytjlhldndomaknaadoor", sum := "c92e2f9fe7e0170e930b30af24343d99f8e6c18e23f2be534fbf4e483185d94b", func := "loop.example/g00618/laws.FnExactTranscript", spec := "fnExactTranscript", named := ["loop.example/g00618/impl.labels"], apart := false, laid := [("loop.example/g00618/impl.labels", laid_loop_example_g00618_impl_labels)], narrowed := true }
def FnExactTranscriptUptoSaid : Prop := fnExactTranscriptUptoRow.holds Tryd.pinned (OpenSpec.upto fnExactTranscriptSpec)

/-- 'laws.FnExactNonceOf', WHERE WHAT IT READS IS OF BULK AT MOST 1048576: true; the input reads as it did. -/
def fnExactNonceOfUptoRow : OpenClaim := { program := "ytjlhldndomaknaadoor", sum := "c92e2f9fe7e0170e930b30af24343d99f8e6c18e23f2be534fbf4e483185d94b", func := "loop.example/g00618/laws.FnExactNonceOf", spec := "fnExactNonceOf", inPlace := ["internal/reflectlite.ValueOf", "(internal/reflectlite.Value).Type", "(internal/reflectlite.Value).IsNil", "internal/reflectlite.TypeOf", "(internal/reflectlite.Value).Elem", "(internal/reflectlite.Value).Set"], unfollowed := true, recurses := true, named := ["errors.errorType", "loop.example/g00618/impl.labels"], apart := false, laid := [("errors.errorType", laid_errors_errorType), ("loop.example/g00618/impl.labels", laid_loop_example_g00618_impl_labels)], narrowed := true }
def FnExactNonceOfUptoSaid : Prop := fnExactNonceOfUptoRow.holds Tryd.pinned (OpenSpec.upto fnExactNonceOfSpec)

/-- 'laws.FnExactSignSum', WHERE WHAT IT READS IS OF BULK AT MOST 1048576: true; the input reads as it did. -/
def fnExactSignSumUptoRow : OpenClaim := { program := "ytjlhldndomaknaadoor", sum := "c92e2f9fe7e0170e930b30af24343d99f8e6c18e23f2be534fbf4e483185d94b", func := "loop.example/g00618/laws.FnExactSignSum", spec := "fnExactSignSum", inPlace := ["internal/reflectlite.ValueOf", "(internal/reflectlite.Value).Type", "(internal/reflectlite.Value).IsNil", "internal/reflectlite.TypeOf", "(internal/reflectlite.Value).Elem", "(internal/reflectlite.Value).Set"], unfollowed := true, recurses := true, named := ["errors.errorType", "loop.example/g00618/impl.labels"], apart := false, laid := [("errors.errorType", laid_errors_errorType), ("loop.example/g00618/impl.labels", laid_loop_example_g00618_impl_labels)], narrowed := true }
def FnExactSignSumUptoSaid : Prop := fnExactSignSumUptoRow.holds Tryd.pinned (OpenSpec.upto fnExactSignSumSpec)

/-- 'laws.FnExactCheckSign', WHERE WHAT IT READS IS OF BULK AT MOST 1048576: true; the input reads as it did. -/
def fnExactCheckSignUptoRow : OpenClaim := { program := "ytjlhldndomaknaadoor", sum := "c92e2f9fe7e0170e930b30af24343d99f8e6c18e23f2be534fbf4e483185d94b", func := "loop.example/g00618/laws.FnExactCheckSign", spec := "fnExactCheckSign", named := ["loop.example/g00618/impl.labels"], apart := false, laid := [("loop.example/g00618/impl.labels", laid_loop_example_g00618_impl_labels)], narrowed := true }
def FnExactCheckSignUptoSaid : Prop := fnExactCheckSignUptoRow.holds Tryd.pinned (OpenSpec.upto fnExactCheckSignSpec)

/-- 'laws.FnExactSealData', WHERE WHAT IT READS IS OF BULK AT MOST 1048576: true; the input reads as it did. -/
def fnExactSealDataUptoRow : OpenClaim := { program := "ytjlhldndomaknaadoor", sum := "c92e2f9fe7e0170e930b30af24343d99f8e6c18e23f2be534fbf4e483185d94b", func := "loop.example/g00618/laws.FnExactSealData", spec := "fnExactSealData", unfollowed := true, recurses := true, named := ["loop.example/g00618/impl.labels"], apart := false, laid := [("loop.example/g00618/impl.labels", laid_loop_example_g00618_impl_labels)], narrowed := true }
def FnExactSealDataUptoSaid : Prop := fnExactSealDataUptoRow.holds Tryd.pinned (OpenSpec.upto fnExactSealDataSpec)

/-- 'laws.FnExactOpenRecord', WHERE WHAT IT READS IS OF BULK AT MOST 1048576: true; the input reads as it did. -/
def fnExactOpenRecordUptoRow : OpenClaim := { program := "ytjlhldndomaknaadoor", sum := "c92e2f9fe7e0170e930b30af24343d99f8e6c18e23f2be534fbf4e483185d94b", func := "loop.example/g00618/laws.FnExactOpenRecord", spec := "fnExactOpenRecord", unfollowed := true, recurses := true, named := ["loop.example/g00618/impl.labels"], apart := false, laid := [("loop.example/g00618/impl.labels", laid_loop_example_g00618_impl_labels)], narrowed := true }
def FnExactOpenRecordUptoSaid : Prop := fnExactOpenRecordUptoRow.holds Tryd.pinned (OpenSpec.upto fnExactOpenRecordSpec)

end Rows
end Go.Proofs.YtjlhldndomaknaaDoor
