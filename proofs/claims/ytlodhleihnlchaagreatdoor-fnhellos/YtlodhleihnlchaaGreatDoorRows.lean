/-
  NARROWER THAN 'FOR EVERY INPUT', by the rows' own cells (each row's printed sentence says how): FnHellos: ifaces, laid · FnStores: laid · FnDecides: laid · FnHandshakes: laid · FnTakes: laid · FnExactHeardOf: laid · FnExactAnswerHello: laid · FnExactTakeReply: laid.
  DERIVED. THE GIVEN ROWS OF THIS SEAT. 8 by the template 'for every input the law returns true; each argument reads behind the call as it read before'; 0 by the template 'total and deterministic' (their statements: YtlodhleihnlchaaGreatDoorTotals.lean).
  GIVEN WITH THE SEED: the statements are not yours to turn. If you find one false, say at which input.
  Laid BY PROGRAM, IN A SANDBOX (cutbox-rows.mjs): the forced cells as the released guide's own fill.sh prints them over the translation efc9244fea0d5c25… (all of the seat's roots in one cut). By AI agents, Wed Nov 11 2026. No macro, syntax, notation, axiom, sorry.
-/
import Derived.Test.YtlodhleihnlchaaGreatDoorChecked
import GoSem.PinnedTables
import GoSem.Claim
import GoSem.ClaimJoined
import GoSem.ClaimMapViews
import Derived.JoinedTies
import Derived.KernelRfl
namespace Go.Proofs.YtlodhleihnlchaaGreatDoor
/- THE CELL 'sum', in the pinned program and in every row, IS THE sha256 OF THE DUMP (.gsa) THAT YtlodhleihnlchaaGreatDoorProg.lean LOADS. Nothing in Lean hashes anything: it is a label: what it is worth is what the hold of that sum in a sandbox is worth. -/
noncomputable def Tryz.pinned : Pinned := { name := "ytlodhleihnlchaagreatdoor", sum := "efc9244fea0d5c251958d394fb8b1733f322b4a64fef0c4a7c12830fd6e8d428", checked := Tryz.checked }
namespace Rows
def none {H : Type} : Left H := { results := [], args := [] }

/- WHAT THE LISTED PACKAGE-LEVEL VARIABLES READ AS WHEN THE CALL BEGINS. Each datum BY PROGRAM (the guide's laid-datum.mjs) off the statement by which the dump's own 'gosem.cut.vars' lays the variable. In a bare row this is a premise. The card (YtlodhleihnlchaaGreatDoorCards.lean) ties it to the program's text. -/
def laid_unicode_utf8_acceptRanges {H : Type} : DataW H := .agg [.agg [.lit (.int .u8 128), .lit (.int .u8 191)], .agg [.lit (.int .u8 160), .lit (.int .u8 191)], .agg [.lit (.int .u8 128), .lit (.int .u8 159)], .agg [.lit (.int .u8 144), .lit (.int .u8 191)], .agg [.lit (.int .u8 128), .lit (.int .u8 143)], .agg [.lit (.int .u8 0), .lit (.int .u8 0)], .agg [.lit (.int .u8 0), .lit (.int .u8 0)], .agg [.lit (.int .u8 0), .lit (.int .u8 0)], .agg [.lit (.int .u8 0), .lit (.int .u8 0)], .agg [.lit (.int .u8 0), .lit (.int .u8 0)], .agg [.lit (.int .u8 0), .lit (.int .u8 0)], .agg [.lit (.int .u8 0), .lit (.int .u8 0)], .agg [.lit (.int .u8 0), .lit (.int .u8 0)], .agg [.lit (.int .u8 0), .lit (.int .u8 0)], .agg [.lit (.int .u8 0), .lit (.int .u8 0)], .agg [.lit (.int .u8 0), .lit (.int .u8 0)]]
def laid_errors_errorType {H : Type} : DataW H := .iface "internal/reflectlite.rtype" (.agg [.ptr (.lit (.string [101, 114, 114, 111, 114]))])
def laid_loop_example_g00618_impl_labels {H : Type} : DataW H := .agg [.lit (.string [115, 116, 114, 101, 97, 109]), .lit (.string [104, 101, 97, 114, 100]), .lit (.string [110, 111, 110, 99, 101]), .lit (.string [115, 105, 103, 110]), .lit (.string [109, 97, 99]), .lit (.string [115, 101, 97, 108]), .lit (.string [115, 112, 107, 105]), .lit (.string [114, 111, 108, 108]), .lit (.string [109, 97, 115, 116, 101, 114]), .lit (.string [118, 101, 114, 105, 102, 121]), .lit (.string [102, 105, 110, 105, 115, 104]), .lit (.string [117, 112]), .lit (.string [100, 111, 119, 110])]
def laid_loop_example_g00618_impl_errUnread {H : Type} : DataW H := .iface "*errors.errorString" (.ptr (.agg [.lit (.string [116, 104, 101, 32, 98, 121, 116, 101, 115, 32, 97, 114, 101, 32, 116, 104, 111, 115, 101, 32, 111, 102, 32, 110, 111, 32, 119, 111, 114, 100])]))
/-- One of Go's own tables, pinned by name: the form's constant. -/
def laid_unicode_CaseRanges : DataW Unit := Go.Pinned.caseRanges
/-- One of Go's own tables, pinned by name: the form's constant. -/
def laid_unicode_utf8_first : DataW Unit := Go.Pinned.utf8First
def laid_loop_example_g00618_impl_reasonTexts {H : Type} : DataW H := .agg [.lit (.string []), .lit (.string [100, 97, 110, 101]), .lit (.string [110, 111, 45, 100, 97, 110, 101]), .lit (.string [97, 99, 116, 105, 118, 101]), .lit (.string [98, 97, 99, 107, 117, 112]), .lit (.string [111, 116, 104, 101, 114]), .lit (.string [101, 120, 112, 105, 114, 101, 100]), .lit (.string [102, 105, 114, 115, 116]), .lit (.string [114, 101, 102, 117, 115, 101, 100])]

/-- 'laws.FnHellos': WHATEVER THE INPUT: true; the input reads as it did. -/
def fnHellosSpec : ChangeSpec := { name := "fnHellos", vars := ["loop.example/g00618/impl.errUnread", "loop.example/g00618/impl.labels"], fn := fun _ => fun
  | [d, g1, g2] => { results := [.lit (.bool true)], args := [d], vars := [g1, g2] }
  | _ => none }
def fnHellosRow : OpenClaim := { program := "ytlodhleihnlchaagreatdoor", sum := "efc9244fea0d5c251958d394fb8b1733f322b4a64fef0c4a7c12830fd6e8d428", func := "loop.example/g00618/laws.FnHellos", spec := "fnHellos", inPlace := ["internal/reflectlite.ValueOf", "(internal/reflectlite.Value).Type", "(internal/reflectlite.Value).IsNil", "internal/reflectlite.TypeOf", "(internal/reflectlite.Value).Elem", "(internal/reflectlite.Value).Set", "internal/abi.NoEscape", "internal/bytealg.MakeNoZero"], unfollowed := true, recurses := true, named := ["loop.example/g00618/impl.errUnread", "errors.errorType", "unicode/utf8.first", "unicode/utf8.acceptRanges", "unicode.CaseRanges", "loop.example/g00618/impl.labels"], ifaces := true, plainKeys := false, apart := false, laid := [("unicode/utf8.acceptRanges", laid_unicode_utf8_acceptRanges), ("errors.errorType", laid_errors_errorType), ("loop.example/g00618/impl.labels", laid_loop_example_g00618_impl_labels), ("loop.example/g00618/impl.errUnread", laid_loop_example_g00618_impl_errUnread), ("unicode.CaseRanges", laid_unicode_CaseRanges), ("unicode/utf8.first", laid_unicode_utf8_first)] }
def FnHellosSaid : Prop := fnHellosRow.holds Tryz.pinned (OpenSpec.ofChange fnHellosSpec)

/-- ITS FALSE NEIGHBOUR: 'it returns false'. Refute it at one input. -/
def fnHellosWrong : ChangeSpec := { name := "fnHellos", vars := ["loop.example/g00618/impl.errUnread", "loop.example/g00618/impl.labels"], fn := fun _ => fun
  | [d, g1, g2] => { results := [.lit (.bool false)], args := [d], vars := [g1, g2] }
  | _ => none }
def FnHellosWrongFalsely : Prop := fnHellosRow.holds Tryz.pinned (OpenSpec.ofChange fnHellosWrong)

/-- 'laws.FnStores': WHATEVER THE INPUT: true; the input reads as it did. -/
def fnStoresSpec : ChangeSpec := { name := "fnStores", vars := ["loop.example/g00618/impl.labels"], fn := fun _ => fun
  | [d, g1] => { results := [.lit (.bool true)], args := [d], vars := [g1] }
  | _ => none }
def fnStoresRow : OpenClaim := { program := "ytlodhleihnlchaagreatdoor", sum := "efc9244fea0d5c251958d394fb8b1733f322b4a64fef0c4a7c12830fd6e8d428", func := "loop.example/g00618/laws.FnStores", spec := "fnStores", inPlace := ["internal/abi.NoEscape", "internal/bytealg.MakeNoZero", "internal/bytealg.abigen_runtime_cmpstring", "internal/reflectlite.ValueOf", "(internal/reflectlite.Value).Type", "(internal/reflectlite.Value).IsNil", "internal/reflectlite.TypeOf", "(internal/reflectlite.Value).Elem", "(internal/reflectlite.Value).Set"], unfollowed := true, recurses := true, named := ["unicode/utf8.first", "unicode/utf8.acceptRanges", "unicode.CaseRanges", "errors.errorType", "loop.example/g00618/impl.labels"], plainKeys := false, apart := false, laid := [("unicode/utf8.acceptRanges", laid_unicode_utf8_acceptRanges), ("errors.errorType", laid_errors_errorType), ("loop.example/g00618/impl.labels", laid_loop_example_g00618_impl_labels), ("unicode.CaseRanges", laid_unicode_CaseRanges), ("unicode/utf8.first", laid_unicode_utf8_first)] }
def FnStoresSaid : Prop := fnStoresRow.holds Tryz.pinned (OpenSpec.ofChange fnStoresSpec)

/-- ITS FALSE NEIGHBOUR: 'it returns false'. Refute it at one input. -/
def fnStoresWrong : ChangeSpec := { name := "fnStores", vars := ["loop.example/g00618/impl.labels"], fn := fun _ => fun
  | [d, g1] => { results := [.lit (.bool false)], args := [d], vars := [g1] }
  | _ => none }
def FnStoresWrongFalsely : Prop := fnStoresRow.holds Tryz.pinned (OpenSpec.ofChange fnStoresWrong)

/-- 'laws.FnDecides': WHATEVER THE INPUT: true; the input reads as it did. -/
def fnDecidesSpec : ChangeSpec := { name := "fnDecides", vars := ["loop.example/g00618/impl.labels", "loop.example/g00618/impl.reasonTexts"], fn := fun _ => fun
  | [d, g1, g2] => { results := [.lit (.bool true)], args := [d], vars := [g1, g2] }
  | _ => none }
def fnDecidesRow : OpenClaim := { program := "ytlodhleihnlchaagreatdoor", sum := "efc9244fea0d5c251958d394fb8b1733f322b4a64fef0c4a7c12830fd6e8d428", func := "loop.example/g00618/laws.FnDecides", spec := "fnDecides", inPlace := ["internal/abi.NoEscape", "internal/bytealg.MakeNoZero"], unfollowed := true, recurses := true, named := ["unicode/utf8.first", "unicode/utf8.acceptRanges", "unicode.CaseRanges", "loop.example/g00618/impl.labels", "loop.example/g00618/impl.reasonTexts"], plainKeys := false, apart := false, laid := [("unicode/utf8.acceptRanges", laid_unicode_utf8_acceptRanges), ("loop.example/g00618/impl.labels", laid_loop_example_g00618_impl_labels), ("loop.example/g00618/impl.reasonTexts", laid_loop_example_g00618_impl_reasonTexts), ("unicode.CaseRanges", laid_unicode_CaseRanges), ("unicode/utf8.first", laid_unicode_utf8_first)] }
def FnDecidesSaid : Prop := fnDecidesRow.holds Tryz.pinned (OpenSpec.ofChange fnDecidesSpec)

/-- ITS FALSE NEIGHBOUR: 'it returns false'. Refute it at one input. -/
def fnDecidesWrong : ChangeSpec := { name := "fnDecides", vars := ["loop.example/g00618/impl.labels", "loop.example/g00618/impl.reasonTexts"], fn := fun _ => fun
  | [d, g1, g2] => { results := [.lit (.bool false)], args := [d], vars := [g1, g2] }
  | _ => none }
def FnDecidesWrongFalsely : Prop := fnDecidesRow.holds Tryz.pinned (OpenSpec.ofChange fnDecidesWrong)

/-- 'laws.FnHandshakes': WHATEVER THE INPUT: true; the input reads as it did. -/
def fnHandshakesSpec : ChangeSpec := { name := "fnHandshakes", vars := ["loop.example/g00618/impl.labels"], fn := fun _ => fun
  | [d, g1] => { results := [.lit (.bool true)], args := [d], vars := [g1] }
  | _ => none }
def fnHandshakesRow : OpenClaim := { program := "ytlodhleihnlchaagreatdoor", sum := "efc9244fea0d5c251958d394fb8b1733f322b4a64fef0c4a7c12830fd6e8d428", func := "loop.example/g00618/laws.FnHandshakes", spec := "fnHandshakes", inPlace := ["internal/abi.NoEscape", "internal/bytealg.MakeNoZero", "internal/reflectlite.ValueOf", "(internal/reflectlite.Value).Type", "(internal/reflectlite.Value).IsNil", "internal/reflectlite.TypeOf", "(internal/reflectlite.Value).Elem", "(internal/reflectlite.Value).Set"], unfollowed := true, recurses := true, named := ["unicode/utf8.first", "unicode/utf8.acceptRanges", "unicode.CaseRanges", "errors.errorType", "loop.example/g00618/impl.labels"], plainKeys := false, apart := false, laid := [("unicode/utf8.acceptRanges", laid_unicode_utf8_acceptRanges), ("errors.errorType", laid_errors_errorType), ("loop.example/g00618/impl.labels", laid_loop_example_g00618_impl_labels), ("unicode.CaseRanges", laid_unicode_CaseRanges), ("unicode/utf8.first", laid_unicode_utf8_first)] }
def FnHandshakesSaid : Prop := fnHandshakesRow.holds Tryz.pinned (OpenSpec.ofChange fnHandshakesSpec)

/-- ITS FALSE NEIGHBOUR: 'it returns false'. Refute it at one input. -/
def fnHandshakesWrong : ChangeSpec := { name := "fnHandshakes", vars := ["loop.example/g00618/impl.labels"], fn := fun _ => fun
  | [d, g1] => { results := [.lit (.bool false)], args := [d], vars := [g1] }
  | _ => none }
def FnHandshakesWrongFalsely : Prop := fnHandshakesRow.holds Tryz.pinned (OpenSpec.ofChange fnHandshakesWrong)

/-- 'laws.FnTakes': WHATEVER THE INPUT: true; the input reads as it did. -/
def fnTakesSpec : ChangeSpec := { name := "fnTakes", vars := ["loop.example/g00618/impl.labels"], fn := fun _ => fun
  | [d, g1] => { results := [.lit (.bool true)], args := [d], vars := [g1] }
  | _ => none }
def fnTakesRow : OpenClaim := { program := "ytlodhleihnlchaagreatdoor", sum := "efc9244fea0d5c251958d394fb8b1733f322b4a64fef0c4a7c12830fd6e8d428", func := "loop.example/g00618/laws.FnTakes", spec := "fnTakes", inPlace := ["internal/abi.NoEscape", "internal/bytealg.MakeNoZero", "internal/reflectlite.ValueOf", "(internal/reflectlite.Value).Type", "(internal/reflectlite.Value).IsNil", "internal/reflectlite.TypeOf", "(internal/reflectlite.Value).Elem", "(internal/reflectlite.Value).Set"], unfollowed := true, recurses := true, named := ["unicode/utf8.first", "unicode/utf8.acceptRanges", "unicode.CaseRanges", "errors.errorType", "loop.example/g00618/impl.labels"], plainKeys := false, apart := false, laid := [("unicode/utf8.acceptRanges", laid_unicode_utf8_acceptRanges), ("errors.errorType", laid_errors_errorType), ("loop.example/g00618/impl.labels", laid_loop_example_g00618_impl_labels), ("unicode.CaseRanges", laid_unicode_CaseRanges), ("unicode/utf8.first", laid_unicode_utf8_first)] }
def FnTakesSaid : Prop := fnTakesRow.holds Tryz.pinned (OpenSpec.ofChange fnTakesSpec)

/-- ITS FALSE NEIGHBOUR: 'it returns false'. Refute it at one input. -/
def fnTakesWrong : ChangeSpec := { name := "fnTakes", vars := ["loop.example/g00618/impl.labels"], fn := fun _ => fun
  | [d, g1] => { results := [.lit (.bool false)], args := [d], vars := [g1] }
  | _ => none }
def FnTakesWrongFalsely : Prop := fnTakesRow.holds Tryz.pinned (OpenSpec.ofChange fnTakesWrong)

/-- 'laws.FnExactHeardOf': WHATEVER THE INPUT: true; the input reads as it did. -/
def fnExactHeardOfSpec : ChangeSpec := { name := "fnExactHeardOf", vars := ["loop.example/g00618/impl.labels"], fn := fun _ => fun
  | [d1, d2, g1] => { results := [.lit (.bool true)], args := [d1, d2], vars := [g1] }
  | _ => none }
def fnExactHeardOfRow : OpenClaim := { program := "ytlodhleihnlchaagreatdoor", sum := "efc9244fea0d5c251958d394fb8b1733f322b4a64fef0c4a7c12830fd6e8d428", func := "loop.example/g00618/laws.FnExactHeardOf", spec := "fnExactHeardOf", inPlace := ["internal/abi.NoEscape", "internal/bytealg.MakeNoZero", "internal/reflectlite.ValueOf", "(internal/reflectlite.Value).Type", "(internal/reflectlite.Value).IsNil", "internal/reflectlite.TypeOf", "(internal/reflectlite.Value).Elem", "(internal/reflectlite.Value).Set"], unfollowed := true, recurses := true, named := ["unicode/utf8.first", "unicode/utf8.acceptRanges", "unicode.CaseRanges", "errors.errorType", "loop.example/g00618/impl.labels"], plainKeys := false, apart := false, laid := [("unicode/utf8.acceptRanges", laid_unicode_utf8_acceptRanges), ("errors.errorType", laid_errors_errorType), ("loop.example/g00618/impl.labels", laid_loop_example_g00618_impl_labels), ("unicode.CaseRanges", laid_unicode_CaseRanges), ("unicode/utf8.first", laid_unicode_utf8_first)] }
def FnExactHeardOfSaid : Prop := fnExactHeardOfRow.holds Tryz.pinned (OpenSpec.ofChange fnExactHeardOfSpec)

/-- ITS FALSE NEIGHBOUR: 'it returns false'. Refute it at one input. -/
def fnExactHeardOfWrong : ChangeSpec := { name := "fnExactHeardOf", vars := ["loop.example/g00618/impl.labels"], fn := fun _ => fun
  | [d1, d2, g1] => { results := [.lit (.bool false)], args := [d1, d2], vars := [g1] }
  | _ => none }
def FnExactHeardOfWrongFalsely : Prop := fnExactHeardOfRow.holds Tryz.pinned (OpenSpec.ofChange fnExactHeardOfWrong)

/-- 'laws.FnExactAnswerHello': WHATEVER THE INPUT: true; the input reads as it did. -/
def fnExactAnswerHelloSpec : ChangeSpec := { name := "fnExactAnswerHello", vars := ["loop.example/g00618/impl.labels"], fn := fun _ => fun
  | [d1, d2, d3, d4, g1] => { results := [.lit (.bool true)], args := [d1, d2, d3, d4], vars := [g1] }
  | _ => none }
def fnExactAnswerHelloRow : OpenClaim := { program := "ytlodhleihnlchaagreatdoor", sum := "efc9244fea0d5c251958d394fb8b1733f322b4a64fef0c4a7c12830fd6e8d428", func := "loop.example/g00618/laws.FnExactAnswerHello", spec := "fnExactAnswerHello", inPlace := ["internal/abi.NoEscape", "internal/bytealg.MakeNoZero", "internal/reflectlite.ValueOf", "(internal/reflectlite.Value).Type", "(internal/reflectlite.Value).IsNil", "internal/reflectlite.TypeOf", "(internal/reflectlite.Value).Elem", "(internal/reflectlite.Value).Set"], unfollowed := true, recurses := true, named := ["unicode/utf8.first", "unicode/utf8.acceptRanges", "unicode.CaseRanges", "errors.errorType", "loop.example/g00618/impl.labels"], plainKeys := false, apart := false, laid := [("unicode/utf8.acceptRanges", laid_unicode_utf8_acceptRanges), ("errors.errorType", laid_errors_errorType), ("loop.example/g00618/impl.labels", laid_loop_example_g00618_impl_labels), ("unicode.CaseRanges", laid_unicode_CaseRanges), ("unicode/utf8.first", laid_unicode_utf8_first)] }
def FnExactAnswerHelloSaid : Prop := fnExactAnswerHelloRow.holds Tryz.pinned (OpenSpec.ofChange fnExactAnswerHelloSpec)

/-- ITS FALSE NEIGHBOUR: 'it returns false'. Refute it at one input. -/
def fnExactAnswerHelloWrong : ChangeSpec := { name := "fnExactAnswerHello", vars := ["loop.example/g00618/impl.labels"], fn := fun _ => fun
  | [d1, d2, d3, d4, g1] => { results := [.lit (.bool false)], args := [d1, d2, d3, d4], vars := [g1] }
  | _ => none }
def FnExactAnswerHelloWrongFalsely : Prop := fnExactAnswerHelloRow.holds Tryz.pinned (OpenSpec.ofChange fnExactAnswerHelloWrong)

/-- 'laws.FnExactTakeReply': WHATEVER THE INPUT: true; the input reads as it did. -/
def fnExactTakeReplySpec : ChangeSpec := { name := "fnExactTakeReply", vars := ["loop.example/g00618/impl.labels"], fn := fun _ => fun
  | [d1, d2, g1] => { results := [.lit (.bool true)], args := [d1, d2], vars := [g1] }
  | _ => none }
def fnExactTakeReplyRow : OpenClaim := { program := "ytlodhleihnlchaagreatdoor", sum := "efc9244fea0d5c251958d394fb8b1733f322b4a64fef0c4a7c12830fd6e8d428", func := "loop.example/g00618/laws.FnExactTakeReply", spec := "fnExactTakeReply", inPlace := ["internal/abi.NoEscape", "internal/bytealg.MakeNoZero", "internal/reflectlite.ValueOf", "(internal/reflectlite.Value).Type", "(internal/reflectlite.Value).IsNil", "internal/reflectlite.TypeOf", "(internal/reflectlite.Value).Elem", "(internal/reflectlite.Value).Set"], unfollowed := true, recurses := true, named := ["unicode/utf8.first", "unicode/utf8.acceptRanges", "unicode.CaseRanges", "errors.errorType", "loop.example/g00618/impl.labels"], plainKeys := false, apart := false, laid := [("unicode/utf8.acceptRanges", laid_unicode_utf8_acceptRanges), ("errors.errorType", laid_errors_errorType), ("loop.example/g00618/impl.labels", laid_loop_example_g00618_impl_labels), ("unicode.CaseRanges", laid_unicode_CaseRanges), ("unicode/utf8.first", laid_unicode_utf8_first)] }
def FnExactTakeReplySaid : Prop := fnExactTakeReplyRow.holds Tryz.pinned (OpenSpec.ofChange fnExactTakeReplySpec)

/-- ITS FALSE NEIGHBOUR: 'it returns false'. Refute it at one input. -/
def fnExactTakeReplyWrong : ChangeSpec := { name := "fnExactTakeReply", vars := ["loop.example/g00618/impl.labels"], fn := fun _ => fun
  | [d1, d2, g1] => { results := [.lit (.bool false)], args := [d1, d2], vars := [g1] }
  | _ => none }
def FnExactTakeReplyWrongFalsely : Prop := fnExactTakeReplyRow.holds Tryz.pinned (OpenSpec.ofChange fnExactTakeReplyWrong)

/- THE SECOND FORM. 'bulk': how many values and letters a reading holds, each counted each time it is reached (what is shared counts as often as it is met; a slice's spare places count too). A statement '..UptoSaid' is the law's where the arguments, and the package variables that the reading takes, are together of bulk at most 1048576: NARROWER than '..Said'. Prove '..Said' where nothing that the law and all that it calls make is longer than what came in: it says more and counts as full. Else prove '..UptoSaid'. A law counts once. -/
mutual
def uptoBulk {H : Type} : DataW H → Nat
  | .lit (.string bytes) => bytes.length + 1
  | .lit _ => 1
  | .nil => 1
  | .ptr d => uptoBulk d + 1
  | .slice elems spare => uptoBulkAll elems + uptoBulkAll spare + 1
  | .agg parts => uptoBulkAll parts + 1
  | .iface _ d => uptoBulk d + 1
  | .map entries => uptoBulkEntries entries + 1
  | .held _ => 1
def uptoBulkAll {H : Type} : List (DataW H) → Nat
  | [] => 0
  | d :: r => uptoBulk d + uptoBulkAll r
def uptoBulkEntries {H : Type} : List (Lit × DataW H) → Nat
  | [] => 0
  | x :: r => uptoBulkEntry x + uptoBulkEntries r
def uptoBulkEntry {H : Type} : Lit × DataW H → Nat
  | (.string bytes, d) => bytes.length + uptoBulk d + 1
  | (_, d) => uptoBulk d + 1
 end
def uptoSmall : (H : Type) → List (DataW H) → Bool := fun _ ds => decide (uptoBulkAll ds ≤ 1048576)
def OpenSpec.upto (s : _root_.Go.ChangeSpec) : _root_.Go.OpenSpec := { _root_.Go.OpenSpec.ofChange s with cond := some uptoSmall }

/-- 'laws.FnHellos', WHERE WHAT IT READS IS OF BULK AT MOST 1048576: true; the input reads as it did. -/
def fnHellosUptoRow : OpenClaim := { program := "ytlodhleihnlchaagreatdoor", sum := "efc9244fea0d5c251958d394fb8b1733f322b4a64fef0c4a7c12830fd6e8d428", func := "loop.example/g00618/laws.FnHellos", spec := "fnHellos", inPlace := ["internal/reflectlite.ValueOf", "(internal/reflectlite.Value).Type", "(internal/reflectlite.Value).IsNil", "internal/reflectlite.TypeOf", "(internal/reflectlite.Value).Elem", "(internal/reflectlite.Value).Set", "internal/abi.NoEscape", "internal/bytealg.MakeNoZero"], unfollowed := true, recurses := true, named := ["loop.example/g00618/impl.errUnread", "errors.errorType", "unicode/utf8.first", "unicode/utf8.acceptRanges", "unicode.CaseRanges", "loop.example/g00618/impl.labels"], ifaces := true, plainKeys := false, apart := false, laid := [("unicode/utf8.acceptRanges", laid_unicode_utf8_acceptRanges), ("errors.errorType", laid_errors_errorType), ("loop.example/g00618/impl.labels", laid_loop_example_g00618_impl_labels), ("loop.example/g00618/impl.errUnread", laid_loop_example_g00618_impl_errUnread), ("unicode.CaseRanges", laid_unicode_CaseRanges), ("unicode/utf8.first", laid_unicode_utf8_first)], narrowed := true }
def FnHellosUptoSaid : Prop := fnHellosUptoRow.holds Tryz.pinned (OpenSpec.upto fnHellosSpec)

/-- 'laws.FnStores', WHERE WHAT IT READS IS OF BULK AT MOST 1048576: true; the input reads as it did. -/
def fnStoresUptoRow : OpenClaim := { program := "ytlodhleihnlchaagreatdoor", sum := "efc9244fea0d5c251958d394fb8b1733f322b4a64fef0c4a7c12830fd6e8d428", func := "loop.example/g00618/laws.FnStores", spec := "fnStores", inPlace := ["internal/abi.NoEscape", "internal/bytealg.MakeNoZero", "internal/bytealg.abigen_runtime_cmpstring", "internal/reflectlite.ValueOf", "(internal/reflectlite.Value).Type", "(internal/reflectlite.Value).IsNil", "internal/reflectlite.TypeOf", "(internal/reflectlite.Value).Elem", "(internal/reflectlite.Value).Set"], unfollowed := true, recurses := true, named := ["unicode/utf8.first", "unicode/utf8.acceptRanges", "unicode.CaseRanges", "errors.errorType", "loop.example/g00618/impl.labels"], plainKeys := false, apart := false, laid := [("unicode/utf8.acceptRanges", laid_unicode_utf8_acceptRanges), ("errors.errorType", laid_errors_errorType), ("loop.example/g00618/impl.labels", laid_loop_example_g00618_impl_labels), ("unicode.CaseRanges", laid_unicode_CaseRanges), ("unicode/utf8.first", laid_unicode_utf8_first)], narrowed := true }
def FnStoresUptoSaid : Prop := fnStoresUptoRow.holds Tryz.pinned (OpenSpec.upto fnStoresSpec)

/-- 'laws.FnDecides', WHERE WHAT IT READS IS OF BULK AT MOST 1048576: true; the input reads as it did. -/
def fnDecidesUptoRow : OpenClaim := { program := "ytlodhleihnlchaagreatdoor", sum := "efc9244fea0d5c251958d394fb8b1733f322b4a64fef0c4a7c12830fd6e8d428", func := "loop.example/g00618/laws.FnDecides", spec := "fnDecides", inPlace := ["internal/abi.NoEscape", "internal/bytealg.MakeNoZero"], unfollowed := true, recurses := true, named := ["unicode/utf8.first", "unicode/utf8.acceptRanges", "unicode.CaseRanges", "loop.example/g00618/impl.labels", "loop.example/g00618/impl.reasonTexts"], plainKeys := false, apart := false, laid := [("unicode/utf8.acceptRanges", laid_unicode_utf8_acceptRanges), ("loop.example/g00618/impl.labels", laid_loop_example_g00618_impl_labels), ("loop.example/g00618/impl.reasonTexts", laid_loop_example_g00618_impl_reasonTexts), ("unicode.CaseRanges", laid_unicode_CaseRanges), ("unicode/utf8.first", laid_unicode_utf8_first)], narrowed := true }
def FnDecidesUptoSaid : Prop := fnDecidesUptoRow.holds Tryz.pinned (OpenSpec.upto fnDecidesSpec)

/-- 'laws.FnHandshakes', WHERE WHAT IT READS IS OF BULK AT MOST 1048576: true; the input reads as it did. -/
def fnHandshakesUptoRow : OpenClaim := { program := "ytlodhleihnlchaagreatdoor", sum := "efc9244fea0d5c251958d394fb8b1733f322b4a64fef0c4a7c12830fd6e8d428", func := "loop.example/g00618/laws.FnHandshakes", spec := "fnHandshakes", inPlace := ["internal/abi.NoEscape", "internal/bytealg.MakeNoZero", "internal/reflectlite.ValueOf", "(internal/reflectlite.Value).Type", "(internal/reflectlite.Value).IsNil", "internal/reflectlite.TypeOf", "(internal/reflectlite.Value).Elem", "(internal/reflectlite.Value).Set"], unfollowed := true, recurses := true, named := ["unicode/utf8.first", "unicode/utf8.acceptRanges", "unicode.CaseRanges", "errors.errorType", "loop.example/g00618/impl.labels"], plainKeys := false, apart := false, laid := [("unicode/utf8.acceptRanges", laid_unicode_utf8_acceptRanges), ("errors.errorType", laid_errors_errorType), ("loop.example/g00618/impl.labels", laid_loop_example_g00618_impl_labels), ("unicode.CaseRanges", laid_unicode_CaseRanges), ("unicode/utf8.first", laid_unicode_utf8_first)], narrowed := true }
def FnHandshakesUptoSaid : Prop := fnHandshakesUptoRow.holds Tryz.pinned (OpenSpec.upto fnHandshakesSpec)

/-- 'laws.FnTakes', WHERE WHAT IT READS IS OF BULK AT MOST 1048576: true; the input reads as it did. -/
def fnTakesUptoRow : OpenClaim := { program := "ytlodhleihnlchaagreatdoor", sum := "efc9244fea0d5c251958d394fb8b1733f322b4a64fef0c4a7c12830fd6e8d428", func := "loop.example/g00618/laws.FnTakes", spec := "fnTakes", inPlace := ["internal/abi.NoEscape", "internal/bytealg.MakeNoZero", "internal/reflectlite.ValueOf", "(internal/reflectlite.Value).Type", "(internal/reflectlite.Value).IsNil", "internal/reflectlite.TypeOf", "(internal/reflectlite.Value).Elem", "(internal/reflectlite.Value).Set"], unfollowed := true, recurses := true, named := ["unicode/utf8.first", "unicode/utf8.acceptRanges", "unicode.CaseRanges", "errors.errorType", "loop.example/g00618/impl.labels"], plainKeys := false, apart := false, laid := [("unicode/utf8.acceptRanges", laid_unicode_utf8_acceptRanges), ("errors.errorType", laid_errors_errorType), ("loop.example/g00618/impl.labels", laid_loop_example_g00618_impl_labels), ("unicode.CaseRanges", laid_unicode_CaseRanges), ("unicode/utf8.first", laid_unicode_utf8_first)], narrowed := true }
def FnTakesUptoSaid : Prop := fnTakesUptoRow.holds Tryz.pinned (OpenSpec.upto fnTakesSpec)

/-- 'laws.FnExactHeardOf', WHERE WHAT IT READS IS OF BULK AT MOST 1048576: true; the input reads as it did. -/
def fnExactHeardOfUptoRow : OpenClaim := { program := "ytlodhleihnlchaagreatdoor", sum := "efc9244fea0d5c251958d394fb8b1733f322b4a64fef0c4a7c12830fd6e8d428", func := "loop.example/g00618/laws.FnExactHeardOf", spec := "fnExactHeardOf", inPlace := ["internal/abi.NoEscape", "internal/bytealg.MakeNoZero", "internal/reflectlite.ValueOf", "(internal/reflectlite.Value).Type", "(internal/reflectlite.Value).IsNil", "internal/reflectlite.TypeOf", "(internal/reflectlite.Value).Elem", "(internal/reflectlite.Value).Set"], unfollowed := true, recurses := true, named := ["unicode/utf8.first", "unicode/utf8.acceptRanges", "unicode.CaseRanges", "errors.errorType", "loop.example/g00618/impl.labels"], plainKeys := false, apart := false, laid := [("unicode/utf8.acceptRanges", laid_unicode_utf8_acceptRanges), ("errors.errorType", laid_errors_errorType), ("loop.example/g00618/impl.labels", laid_loop_example_g00618_impl_labels), ("unicode.CaseRanges", laid_unicode_CaseRanges), ("unicode/utf8.first", laid_unicode_utf8_first)], narrowed := true }
def FnExactHeardOfUptoSaid : Prop := fnExactHeardOfUptoRow.holds Tryz.pinned (OpenSpec.upto fnExactHeardOfSpec)

/-- 'laws.FnExactAnswerHello', WHERE WHAT IT READS IS OF BULK AT MOST 1048576: true; the input reads as it did. -/
def fnExactAnswerHelloUptoRow : OpenClaim := { program := "ytlodhleihnlchaagreatdoor", sum := "efc9244fea0d5c251958d394fb8b1733f322b4a64fef0c4a7c12830fd6e8d428", func := "loop.example/g00618/laws.FnExactAnswerHello", spec := "fnExactAnswerHello", inPlace := ["internal/abi.NoEscape", "internal/bytealg.MakeNoZero", "internal/reflectlite.ValueOf", "(internal/reflectlite.Value).Type", "(internal/reflectlite.Value).IsNil", "internal/reflectlite.TypeOf", "(internal/reflectlite.Value).Elem", "(internal/reflectlite.Value).Set"], unfollowed := true, recurses := true, named := ["unicode/utf8.first", "unicode/utf8.acceptRanges", "unicode.CaseRanges", "errors.errorType", "loop.example/g00618/impl.labels"], plainKeys := false, apart := false, laid := [("unicode/utf8.acceptRanges", laid_unicode_utf8_acceptRanges), ("errors.errorType", laid_errors_errorType), ("loop.example/g00618/impl.labels", laid_loop_example_g00618_impl_labels), ("unicode.CaseRanges", laid_unicode_CaseRanges), ("unicode/utf8.first", laid_unicode_utf8_first)], narrowed := true }
def FnExactAnswerHelloUptoSaid : Prop := fnExactAnswerHelloUptoRow.holds Tryz.pinned (OpenSpec.upto fnExactAnswerHelloSpec)

/-- 'laws.FnExactTakeReply', WHERE WHAT IT READS IS OF BULK AT MOST 1048576: true; the input reads as it did. -/
def fnExactTakeReplyUptoRow : OpenClaim := { program := "ytlodhleihnlchaagreatdoor", sum := "efc9244fea0d5c251958d394fb8b1733f322b4a64fef0c4a7c12830fd6e8d428", func := "loop.example/g00618/laws.FnExactTakeReply", spec := "fnExactTakeReply", inPlace := ["internal/abi.NoEscape", "internal/bytealg.MakeNoZero", "internal/reflectlite.ValueOf", "(internal/reflectlite.Value).Type", "(internal/reflectlite.Value).IsNil", "internal/reflectlite.TypeOf", "(internal/reflectlite.Value).Elem", "(internal/reflectlite.Value).Set"], unfollowed := true, recurses := true, named := ["unicode/utf8.first", "unicode/utf8.acceptRanges", "unicode.CaseRanges", "errors.errorType", "loop.example/g00618/impl.labels"], plainKeys := false, apart := false, laid := [("unicode/utf8.acceptRanges", laid_unicode_utf8_acceptRanges), ("errors.errorType", laid_errors_errorType), ("loop.example/g00618/impl.labels", laid_loop_example_g00618_impl_labels), ("unicode.CaseRanges", laid_unicode_CaseRanges), ("unicode/utf8.first", laid_unicode_utf8_first)], narrowed := true }
def FnExactTakeReplyUptoSaid : Prop := fnExactTakeReplyUptoRow.holds Tryz.pinned (OpenSpec.upto fnExactTakeReplySpec)

end Rows
end Go.Proofs.YtlodhleihnlchaaGreatDoor
