/-
  NARROWER THAN 'FOR EVERY INPUT', by the rows' own cells (each row's printed sentence says how): FnNames: laid · FnExactNormalName: laid · FnExactTlsaFault: laid · FnExactPackTlsa: laid · FnExactReadTlsa: laid · FnExactTlsaFor: laid · FnExactMatchesTlsa: laid.
  DERIVED. THE GIVEN ROWS OF THIS SEAT. 7 by the template 'for every input the law returns true; each argument reads behind the call as it read before'; 0 by the template 'total and deterministic' (their statements: YtdkgiiikcapjcaaDoorTotals.lean).
  GIVEN WITH THE SEED: the statements are not yours to turn. If you find one false, say at which input.
  Laid BY PROGRAM, IN A SANDBOX (cutbox-rows.mjs): the forced cells as the released guide's own fill.sh prints them over the translation 1bb784da19b6430f… (all of the seat's roots in one cut). By AI agents, Wed Nov 11 2026. No macro, syntax, notation, axiom, sorry.
-/
import Derived.Test.YtdkgiiikcapjcaaDoorChecked
import GoSem.PinnedTables
import GoSem.Claim
import GoSem.ClaimJoined
import GoSem.ClaimMapViews
import Derived.JoinedTies
import Derived.KernelRfl
namespace Go.Proofs.YtdkgiiikcapjcaaDoor
/- THE CELL 'sum', in the pinned program and in every row, IS THE sha256 OF THE DUMP (.gsa) THAT YtdkgiiikcapjcaaDoorProg.lean LOADS. Nothing in Lean hashes anything: it is a label: what it is worth is what the hold of that sum in a sandbox is worth. -/
noncomputable def Tryd.pinned : Pinned := { name := "ytdkgiiikcapjcaadoor", sum := "1bb784da19b6430fd51470c01c4c390e7f7db9a5d2f246b3c45cc0469c2ef24e", checked := Tryd.checked }
namespace Rows
def none {H : Type} : Left H := { results := [], args := [] }

/- WHAT THE LISTED PACKAGE-LEVEL VARIABLES READ AS WHEN THE CALL BEGINS. Each datum BY PROGRAM (the guide's laid-datum.mjs) off the statement by which the dump's own 'gosem.cut.vars' lays the variable. In a bare row this is a premise. The card (YtdkgiiikcapjcaaDoorCards.lean) ties it to the program's text. -/
def laid_unicode_utf8_acceptRanges {H : Type} : DataW H := .agg [.agg [.lit (.int .u8 128), .lit (.int .u8 191)], .agg [.lit (.int .u8 160), .lit (.int .u8 191)], .agg [.lit (.int .u8 128), .lit (.int .u8 159)], .agg [.lit (.int .u8 144), .lit (.int .u8 191)], .agg [.lit (.int .u8 128), .lit (.int .u8 143)], .agg [.lit (.int .u8 0), .lit (.int .u8 0)], .agg [.lit (.int .u8 0), .lit (.int .u8 0)], .agg [.lit (.int .u8 0), .lit (.int .u8 0)], .agg [.lit (.int .u8 0), .lit (.int .u8 0)], .agg [.lit (.int .u8 0), .lit (.int .u8 0)], .agg [.lit (.int .u8 0), .lit (.int .u8 0)], .agg [.lit (.int .u8 0), .lit (.int .u8 0)], .agg [.lit (.int .u8 0), .lit (.int .u8 0)], .agg [.lit (.int .u8 0), .lit (.int .u8 0)], .agg [.lit (.int .u8 0), .lit (.int .u8 0)], .agg [.lit (.int .u8 0), .lit (.int .u8 0)]]
def laid_loop_example_g00618_impl_labels {H : Type} : DataW H := .agg [.lit (.string [115, 116, 114, 101, 97, 109]), .lit (.string [104, 101, 97, 114, 100]), .lit (.string [110, 111, 110, 99, 101]), .lit (.string [115, 105, 103, 110]), .lit (.string [109, 97, 99]), .lit (.string [115, 101, 97, 108]), .lit (.string [115, 112, 107, 105])]
/-- One of Go's own tables, pinned by name: the form's constant. -/
def laid_unicode_CaseRanges : DataW Unit := Go.Pinned.caseRanges
/-- One of Go's own tables, pinned by name: the form's constant. -/
def laid_unicode_utf8_first : DataW Unit := Go.Pinned.utf8First

/-- 'laws.FnNames': WHATEVER THE INPUT: true; the input reads as it did. -/
def fnNamesSpec : ChangeSpec := { name := "fnNames", vars := ["loop.example/g00618/impl.labels"], fn := fun _ => fun
  | [d, g1] => { results := [.lit (.bool true)], args := [d], vars := [g1] }
  | _ => none }
def fnNamesRow : OpenClaim := { program := "ytdkgiiikcapjcaadoor", sum := "1bb784da19b6430fd51470c01c4c390e7f7db9a5d2f246b3c45cc0469c2ef24e", func := "loop.example/g00618/laws.FnNames", spec := "fnNames", inPlace := ["internal/abi.NoEscape", "internal/bytealg.MakeNoZero"], unfollowed := true, recurses := true, named := ["unicode/utf8.first", "unicode/utf8.acceptRanges", "unicode.CaseRanges", "loop.example/g00618/impl.labels"], apart := false, laid := [("unicode/utf8.acceptRanges", laid_unicode_utf8_acceptRanges), ("loop.example/g00618/impl.labels", laid_loop_example_g00618_impl_labels), ("unicode.CaseRanges", laid_unicode_CaseRanges), ("unicode/utf8.first", laid_unicode_utf8_first)] }
def FnNamesSaid : Prop := fnNamesRow.holds Tryd.pinned (OpenSpec.ofChange fnNamesSpec)

/-- ITS FALSE NEIGHBOUR: 'it returns false'. Refute it at one input. -/
def fnNamesWrong : ChangeSpec := { name := "fnNames", vars := ["loop.example/g00618/impl.labels"], fn := fun _ => fun
  | [d, g1] => { results := [.lit (.bool false)], args := [d], vars := [g1] }
  | _ => none }
def FnNamesWrongFalsely : Prop := fnNamesRow.holds Tryd.pinned (OpenSpec.ofChange fnNamesWrong)

/-- 'laws.FnExactNormalName': WHATEVER THE INPUT: true; the input reads as it did. -/
def fnExactNormalNameSpec : ChangeSpec := { name := "fnExactNormalName", fn := fun _ => fun
  | [d] => { results := [.lit (.bool true)], args := [d] }
  | _ => none }
def fnExactNormalNameRow : OpenClaim := { program := "ytdkgiiikcapjcaadoor", sum := "1bb784da19b6430fd51470c01c4c390e7f7db9a5d2f246b3c45cc0469c2ef24e", func := "loop.example/g00618/laws.FnExactNormalName", spec := "fnExactNormalName", inPlace := ["internal/abi.NoEscape", "internal/bytealg.MakeNoZero"], unfollowed := true, recurses := true, named := ["unicode/utf8.first", "unicode/utf8.acceptRanges", "unicode.CaseRanges"], apart := false, laid := [("unicode/utf8.acceptRanges", laid_unicode_utf8_acceptRanges), ("unicode.CaseRanges", laid_unicode_CaseRanges), ("unicode/utf8.first", laid_unicode_utf8_first)] }
def FnExactNormalNameSaid : Prop := fnExactNormalNameRow.holds Tryd.pinned (OpenSpec.ofChange fnExactNormalNameSpec)

/-- ITS FALSE NEIGHBOUR: 'it returns false'. Refute it at one input. -/
def fnExactNormalNameWrong : ChangeSpec := { name := "fnExactNormalName", fn := fun _ => fun
  | [d] => { results := [.lit (.bool false)], args := [d] }
  | _ => none }
def FnExactNormalNameWrongFalsely : Prop := fnExactNormalNameRow.holds Tryd.pinned (OpenSpec.ofChange fnExactNormalNameWrong)

/-- 'laws.FnExactTlsaFault': WHATEVER THE INPUT: true; the input reads as it did. -/
def fnExactTlsaFaultSpec : ChangeSpec := { name := "fnExactTlsaFault", fn := fun _ => fun
  | [d] => { results := [.lit (.bool true)], args := [d] }
  | _ => none }
def fnExactTlsaFaultRow : OpenClaim := { program := "ytdkgiiikcapjcaadoor", sum := "1bb784da19b6430fd51470c01c4c390e7f7db9a5d2f246b3c45cc0469c2ef24e", func := "loop.example/g00618/laws.FnExactTlsaFault", spec := "fnExactTlsaFault", inPlace := ["internal/abi.NoEscape", "internal/bytealg.MakeNoZero"], unfollowed := true, recurses := true, named := ["unicode/utf8.first", "unicode/utf8.acceptRanges", "unicode.CaseRanges"], apart := false, laid := [("unicode/utf8.acceptRanges", laid_unicode_utf8_acceptRanges), ("unicode.CaseRanges", laid_unicode_CaseRanges), ("unicode/utf8.first", laid_unicode_utf8_first)] }
def FnExactTlsaFaultSaid : Prop := fnExactTlsaFaultRow.holds Tryd.pinned (OpenSpec.ofChange fnExactTlsaFaultSpec)

/-- ITS FALSE NEIGHBOUR: 'it returns false'. Refute it at one input. -/
def fnExactTlsaFaultWrong : ChangeSpec := { name := "fnExactTlsaFault", fn := fun _ => fun
  | [d] => { results := [.lit (.bool false)], args := [d] }
  | _ => none }
def FnExactTlsaFaultWrongFalsely : Prop := fnExactTlsaFaultRow.holds Tryd.pinned (OpenSpec.ofChange fnExactTlsaFaultWrong)

/-- 'laws.FnExactPackTlsa': WHATEVER THE INPUT: true; the input reads as it did. -/
def fnExactPackTlsaSpec : ChangeSpec := { name := "fnExactPackTlsa", fn := fun _ => fun
  | [d] => { results := [.lit (.bool true)], args := [d] }
  | _ => none }
def fnExactPackTlsaRow : OpenClaim := { program := "ytdkgiiikcapjcaadoor", sum := "1bb784da19b6430fd51470c01c4c390e7f7db9a5d2f246b3c45cc0469c2ef24e", func := "loop.example/g00618/laws.FnExactPackTlsa", spec := "fnExactPackTlsa", inPlace := ["internal/abi.NoEscape", "internal/bytealg.MakeNoZero"], unfollowed := true, recurses := true, named := ["unicode/utf8.first", "unicode/utf8.acceptRanges", "unicode.CaseRanges"], apart := false, laid := [("unicode/utf8.acceptRanges", laid_unicode_utf8_acceptRanges), ("unicode.CaseRanges", laid_unicode_CaseRanges), ("unicode/utf8.first", laid_unicode_utf8_first)] }
def FnExactPackTlsaSaid : Prop := fnExactPackTlsaRow.holds Tryd.pinned (OpenSpec.ofChange fnExactPackTlsaSpec)

/-- ITS FALSE NEIGHBOUR: 'it returns false'. Refute it at one input. -/
def fnExactPackTlsaWrong : ChangeSpec := { name := "fnExactPackTlsa", fn := fun _ => fun
  | [d] => { results := [.lit (.bool false)], args := [d] }
  | _ => none }
def FnExactPackTlsaWrongFalsely : Prop := fnExactPackTlsaRow.holds Tryd.pinned (OpenSpec.ofChange fnExactPackTlsaWrong)

/-- 'laws.FnExactReadTlsa': WHATEVER THE INPUT: true; the input reads as it did. -/
def fnExactReadTlsaSpec : ChangeSpec := { name := "fnExactReadTlsa", fn := fun _ => fun
  | [d] => { results := [.lit (.bool true)], args := [d] }
  | _ => none }
def fnExactReadTlsaRow : OpenClaim := { program := "ytdkgiiikcapjcaadoor", sum := "1bb784da19b6430fd51470c01c4c390e7f7db9a5d2f246b3c45cc0469c2ef24e", func := "loop.example/g00618/laws.FnExactReadTlsa", spec := "fnExactReadTlsa", inPlace := ["internal/abi.NoEscape", "internal/bytealg.MakeNoZero"], unfollowed := true, recurses := true, named := ["unicode/utf8.first", "unicode/utf8.acceptRanges", "unicode.CaseRanges"], apart := false, laid := [("unicode/utf8.acceptRanges", laid_unicode_utf8_acceptRanges), ("unicode.CaseRanges", laid_unicode_CaseRanges), ("unicode/utf8.first", laid_unicode_utf8_first)] }
def FnExactReadTlsaSaid : Prop := fnExactReadTlsaRow.holds Tryd.pinned (OpenSpec.ofChange fnExactReadTlsaSpec)

/-- ITS FALSE NEIGHBOUR: 'it returns false'. Refute it at one input. -/
def fnExactReadTlsaWrong : ChangeSpec := { name := "fnExactReadTlsa", fn := fun _ => fun
  | [d] => { results := [.lit (.bool false)], args := [d] }
  | _ => none }
def FnExactReadTlsaWrongFalsely : Prop := fnExactReadTlsaRow.holds Tryd.pinned (OpenSpec.ofChange fnExactReadTlsaWrong)

/-- 'laws.FnExactTlsaFor': WHATEVER THE INPUT: true; the input reads as it did. -/
def fnExactTlsaForSpec : ChangeSpec := { name := "fnExactTlsaFor", vars := ["loop.example/g00618/impl.labels"], fn := fun _ => fun
  | [d1, d2, d3, g1] => { results := [.lit (.bool true)], args := [d1, d2, d3], vars := [g1] }
  | _ => none }
def fnExactTlsaForRow : OpenClaim := { program := "ytdkgiiikcapjcaadoor", sum := "1bb784da19b6430fd51470c01c4c390e7f7db9a5d2f246b3c45cc0469c2ef24e", func := "loop.example/g00618/laws.FnExactTlsaFor", spec := "fnExactTlsaFor", inPlace := ["internal/abi.NoEscape", "internal/bytealg.MakeNoZero"], unfollowed := true, recurses := true, named := ["loop.example/g00618/impl.labels", "unicode/utf8.first", "unicode/utf8.acceptRanges", "unicode.CaseRanges"], apart := false, laid := [("unicode/utf8.acceptRanges", laid_unicode_utf8_acceptRanges), ("loop.example/g00618/impl.labels", laid_loop_example_g00618_impl_labels), ("unicode.CaseRanges", laid_unicode_CaseRanges), ("unicode/utf8.first", laid_unicode_utf8_first)] }
def FnExactTlsaForSaid : Prop := fnExactTlsaForRow.holds Tryd.pinned (OpenSpec.ofChange fnExactTlsaForSpec)

/-- ITS FALSE NEIGHBOUR: 'it returns false'. Refute it at one input. -/
def fnExactTlsaForWrong : ChangeSpec := { name := "fnExactTlsaFor", vars := ["loop.example/g00618/impl.labels"], fn := fun _ => fun
  | [d1, d2, d3, g1] => { results := [.lit (.bool false)], args := [d1, d2, d3], vars := [g1] }
  | _ => none }
def FnExactTlsaForWrongFalsely : Prop := fnExactTlsaForRow.holds Tryd.pinned (OpenSpec.ofChange fnExactTlsaForWrong)

/-- 'laws.FnExactMatchesTlsa': WHATEVER THE INPUT: true; the input reads as it did. -/
def fnExactMatchesTlsaSpec : ChangeSpec := { name := "fnExactMatchesTlsa", vars := ["loop.example/g00618/impl.labels"], fn := fun _ => fun
  | [d1, d2, d3, g1] => { results := [.lit (.bool true)], args := [d1, d2, d3], vars := [g1] }
  | _ => none }
def fnExactMatchesTlsaRow : OpenClaim := { program := "ytdkgiiikcapjcaadoor", sum := "1bb784da19b6430fd51470c01c4c390e7f7db9a5d2f246b3c45cc0469c2ef24e", func := "loop.example/g00618/laws.FnExactMatchesTlsa", spec := "fnExactMatchesTlsa", inPlace := ["internal/abi.NoEscape", "internal/bytealg.MakeNoZero"], unfollowed := true, recurses := true, named := ["loop.example/g00618/impl.labels", "unicode/utf8.first", "unicode/utf8.acceptRanges", "unicode.CaseRanges"], apart := false, laid := [("unicode/utf8.acceptRanges", laid_unicode_utf8_acceptRanges), ("loop.example/g00618/impl.labels", laid_loop_example_g00618_impl_labels), ("unicode.CaseRanges", laid_unicode_CaseRanges), ("unicode/utf8.first", laid_unicode_utf8_first)] }
def FnExactMatchesTlsaSaid : Prop := fnExactMatchesTlsaRow.holds Tryd.pinned (OpenSpec.ofChange fnExactMatchesTlsaSpec)

/-- ITS FALSE NEIGHBOUR: 'it returns false'. Refute it at one input. -/
def fnExactMatchesTlsaWrong : ChangeSpec := { name := "fnExactMatchesTlsa", vars := ["loop.example/g00618/impl.labels"], fn := fun _ => fun
  | [d1, d2, d3, g1] => { results := [.lit (.bool false)], args := [d1, d2, d3], vars := [g1] }
  | _ => none }
def FnExactMatchesTlsaWrongFalsely : Prop := fnExactMatchesTlsaRow.holds Tryd.pinned (OpenSpec.ofChange fnExactMatchesTlsaWrong)

/- THE SECOND FORM. 'bulk': how many values and letters a reading holds, each counted each time it is reached (what is shared counts as often as it is met; a slice's spare places count too). A statement '..UptoSaid' is the law's where the arguments, and the package variables that the reading takes, are together of bulk at most 1048576: NARROWER than '..Said'. Prove '..Said' where nothing that the law and all that it calls make is longer than what came in: it says more and counts as full. Else prove '..UptoSaid'. A law counts once. -/
mutual
def uptoBulk {H : Type} : DataW H → Nat
  | .lit (.string bytes) => bytes.length + 1
  | .lit _ => 1
  | .nil => 1
  | .ptr d => uptoBulk d + 1
  | .slice elems spare => uptoBulkAll elems + uptoBulkAll spare + 1
  | .agg parts => uptoBulkAll parts + 1
  | .iface _ d => uptoBulk d + 1
  | .map entries => uptoBulkEntries entries + 1
  | .held _ => 1
def uptoBulkAll {H : Type} : List (DataW H) → Nat
  | [] => 0
  | d :: r => uptoBulk d + uptoBulkAll r
def uptoBulkEntries {H : Type} : List (Lit × DataW H) → Nat
  | [] => 0
  | x :: r => uptoBulkEntry x + uptoBulkEntries r
def uptoBulkEntry {H : Type} : Lit × DataW H → Nat
  | (.string bytes, d) => bytes.length + uptoBulk d + 1
  | (_, d) => uptoBulk d + 1
 end
def uptoSmall : (H : Type) → List (DataW H) → Bool := fun _ ds => decide (uptoBulkAll ds ≤ 1048576)
def OpenSpec.upto (s : _root_.Go.ChangeSpec) : _root_.Go.OpenSpec := { _root_.Go.OpenSpec.ofChange s with cond := some uptoSmall }

/-- 'laws.FnNames', WHERE WHAT IT READS IS OF BULK AT MOST 1048576: true; the input reads as it did. -/
def fnNamesUptoRow : OpenClaim := { program := "ytdkgiiikcapjcaadoor", sum := "1bb784da19b6430fd51470c01c4c390e7f7db9a5d2f246b3c45cc0469c2ef24e", func := "loop.example/g00618/laws.FnNames", spec := "fnNames", inPlace := ["internal/abi.NoEscape", "internal/bytealg.MakeNoZero"], unfollowed := true, recurses := true, named := ["unicode/utf8.first", "unicode/utf8.acceptRanges", "unicode.CaseRanges", "loop.example/g00618/impl.labels"], apart := false, laid := [("unicode/utf8.acceptRanges", laid_unicode_utf8_acceptRanges), ("loop.example/g00618/impl.labels", laid_loop_example_g00618_impl_labels), ("unicode.CaseRanges", laid_unicode_CaseRanges), ("unicode/utf8.first", laid_unicode_utf8_first)], narrowed := true }
def FnNamesUptoSaid : Prop := fnNamesUptoRow.holds Tryd.pinned (OpenSpec.upto fnNamesSpec)

/-- 'laws.FnExactNormalName', WHERE WHAT IT READS IS OF BULK AT MOST 1048576: true; the input reads as it did. -/
def fnExactNormalNameUptoRow : OpenClaim := { program := "ytdkgiiikcapjcaadoor", sum := "1bb784da19b6430fd51470c01c4c390e7f7db9a5d2f246b3c45cc0469c2ef24e", func := "loop.example/g00618/laws.FnExactNormalName", spec := "fnExactNormalName", inPlace := ["internal/abi.NoEscape", "internal/bytealg.MakeNoZero"], unfollowed := true, recurses := true, named := ["unicode/utf8.first", "unicode/utf8.acceptRanges", "unicode.CaseRanges"], apart := false, laid := [("unicode/utf8.acceptRanges", laid_unicode_utf8_acceptRanges), ("unicode.CaseRanges", laid_unicode_CaseRanges), ("unicode/utf8.first", laid_unicode_utf8_first)], narrowed := true }
def FnExactNormalNameUptoSaid : Prop := fnExactNormalNameUptoRow.holds Tryd.pinned (OpenSpec.upto fnExactNormalNameSpec)

/-- 'laws.FnExactTlsaFault', WHERE WHAT IT READS IS OF BULK AT MOST 1048576: true; the input reads as it did. -/
def fnExactTlsaFaultUptoRow : OpenClaim := { program := "ytdkgiiikcapjcaadoor", sum := "1bb784da19b6430fd51470c01c4c390e7f7db9a5d2f246b3c45cc0469c2ef24e", func := "loop.example/g00618/laws.FnExactTlsaFault", spec := "fnExactTlsaFault", inPlace := ["internal/abi.NoEscape", "internal/bytealg.MakeNoZero"], unfollowed := true, recurses := true, named := ["unicode/utf8.first", "unicode/utf8.acceptRanges", "unicode.CaseRanges"], apart := false, laid := [("unicode/utf8.acceptRanges", laid_unicode_utf8_acceptRanges), ("unicode.CaseRanges", laid_unicode_CaseRanges), ("unicode/utf8.first", laid_unicode_utf8_first)], narrowed := true }
def FnExactTlsaFaultUptoSaid : Prop := fnExactTlsaFaultUptoRow.holds Tryd.pinned (OpenSpec.upto fnExactTlsaFaultSpec)

/-- 'laws.FnExactPackTlsa', WHERE WHAT IT READS IS OF BULK AT MOST 1048576: true; the input reads as it did. -/
def fnExactPackTlsaUptoRow : OpenClaim := { program := "ytdkgiiikcapjcaadoor", sum := "1bb784da19b6430fd51470c01c4c390e7f7db9a5d2f246b3c45cc0469c2ef24e", func := "loop.example/g00618/laws.FnExactPackTlsa", spec := "fnExactPackTlsa", inPlace := ["internal/abi.NoEscape", "internal/bytealg.MakeNoZero"], unfollowed := true, recurses := true, named := ["unicode/utf8.first", "unicode/utf8.acceptRanges", "unicode.CaseRanges"], apart := false, laid := [("unicode/utf8.acceptRanges", laid_unicode_utf8_acceptRanges), ("unicode.CaseRanges", laid_unicode_CaseRanges), ("unicode/utf8.first", laid_unicode_utf8_first)], narrowed := true }
def FnExactPackTlsaUptoSaid : Prop := fnExactPackTlsaUptoRow.holds Tryd.pinned (OpenSpec.upto fnExactPackTlsaSpec)

/-- 'laws.FnExactReadTlsa', WHERE WHAT IT READS IS OF BULK AT MOST 1048576: true; the input reads as it did. -/
def fnExactReadTlsaUptoRow : OpenClaim := { program := "ytdkgiiikcapjcaadoor", sum := "1bb784da19b6430fd51470c01c4c390e7f7db9a5d2f246b3c45cc0469c2ef24e", func := "loop.example/g00618/laws.FnExactReadTlsa", spec := "fnExactReadTlsa", inPlace := ["internal/abi.NoEscape", "internal/bytealg.MakeNoZero"], unfollowed := true, recurses := true, named := ["unicode/utf8.first", "unicode/utf8.acceptRanges", "unicode.CaseRanges"], apart := false, laid := [("unicode/utf8.acceptRanges", laid_unicode_utf8_acceptRanges), ("unicode.CaseRanges", laid_unicode_CaseRanges), ("unicode/utf8.first", laid_unicode_utf8_first)], narrowed := true }
def FnExactReadTlsaUptoSaid : Prop := fnExactReadTlsaUptoRow.holds Tryd.pinned (OpenSpec.upto fnExactReadTlsaSpec)

/-- 'laws.FnExactTlsaFor', WHERE WHAT IT READS IS OF BULK AT MOST 1048576: true; the input reads as it did. -/
def fnExactTlsaForUptoRow : OpenClaim := { program := "ytdkgiiikcapjcaadoor", sum := "1bb784da19b6430fd51470c01c4c390e7f7db9a5d2f246b3c45cc0469c2ef24e", func := "loop.example/g00618/laws.FnExactTlsaFor", spec := "fnExactTlsaFor", inPlace := ["internal/abi.NoEscape", "internal/bytealg.MakeNoZero"], unfollowed := true, recurses := true, named := ["loop.example/g00618/impl.labels", "unicode/utf8.first", "unicode/utf8.acceptRanges", "unicode.CaseRanges"], apart := false, laid := [("unicode/utf8.acceptRanges", laid_unicode_utf8_acceptRanges), ("loop.example/g00618/impl.labels", laid_loop_example_g00618_impl_labels), ("unicode.CaseRanges", laid_unicode_CaseRanges), ("unicode/utf8.first", laid_unicode_utf8_first)], narrowed := true }
def FnExactTlsaForUptoSaid : Prop := fnExactTlsaForUptoRow.holds Tryd.pinned (OpenSpec.upto fnExactTlsaForSpec)

/-- 'laws.FnExactMatchesTlsa', WHERE WHAT IT READS IS OF BULK AT MOST 1048576: true; the input reads as it did. -/
def fnExactMatchesTlsaUptoRow : OpenClaim := { program := "ytdkgiiikcapjcaadoor", sum := "1bb784da19b6430fd51470c01c4c390e7f7db9a5d2f246b3c45cc0469c2ef24e", func := "loop.example/g00618/laws.FnExactMatchesTlsa", spec := "fnExactMatchesTlsa", inPlace := ["internal/abi.NoEscape", "internal/bytealg.MakeNoZero"], unfollowed := true, recurses := true, named := ["loop.example/g00618/impl.labels", "unicode/utf8.first", "unicode/utf8.acceptRanges", "unicode.CaseRanges"], apart := false, laid := [("unicode/utf8.acceptRanges", laid_unicode_utf8_acceptRanges), ("loop.example/g00618/impl.labels", laid_loop_example_g00618_impl_labels), ("unicode.CaseRanges", laid_unicode_CaseRanges), ("unicode/utf8.first", laid_unicode_utf8_first)], narrowed := true }
def FnExactMatchesTlsaUptoSaid : Prop := fnExactMatchesTlsaUptoRow.holds Tryd.pinned (OpenSpec.upto fnExactMatchesTlsaSpec)

end Rows
end Go.Proofs.YtdkgiiikcapjcaaDoor
