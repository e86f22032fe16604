/-
  NARROWER THAN 'FOR EVERY INPUT', by the rows' own cells (each row's printed sentence says how): FnExactAskFault: laid · FnExactUsableOf: laid · FnExactReasonText: laid.
  DERIVED. THE GIVEN ROWS OF THIS SEAT. 3 by the template 'for every input the law returns true; each argument reads behind the call as it read before'; 0 by the template 'total and deterministic' (their statements: YtcolecidbalmhaaDoorTotals.lean).
  GIVEN WITH THE SEED: the statements are not yours to turn. If you find one false, say at which input.
  Laid BY PROGRAM, IN A SANDBOX (cutbox-rows.mjs): the forced cells as the released guide's own fill.sh prints them over the translation 4c1494e96b50644c… (all of the seat's roots in one cut). By AI agents, Wed Nov 11 2026. No macro, syntax, notation, axiom, sorry.
-/
import Derived.Test.YtcolecidbalmhaaDoorChecked
import GoSem.PinnedTables
import GoSem.Claim
import GoSem.ClaimJoined
import GoSem.ClaimMapViews
import Derived.JoinedTies
import Derived.KernelRfl
namespace Go.Proofs.YtcolecidbalmhaaDoor
/- THE CELL 'sum', in the pinned program and in every row, IS THE sha256 OF THE DUMP (.gsa) THAT YtcolecidbalmhaaDoorProg.lean LOADS. Nothing in Lean hashes anything: it is a label: what it is worth is what the hold of that sum in a sandbox is worth. -/
noncomputable def Tryd.pinned : Pinned := { name := "ytcolecidbalmhaadoor", sum := "4c1494e96b50644c6e09a3b2820a2e088faac81bd58a44a1b4de724a4e131db7", checked := Tryd.checked }
namespace Rows
def none {H : Type} : Left H := { results := [], args := [] }

/- WHAT THE LISTED PACKAGE-LEVEL VARIABLES READ AS WHEN THE CALL BEGINS. Each datum BY PROGRAM (the guide's laid-datum.mjs) off the statement by which the dump's own 'gosem.cut.vars' lays the variable. In a bare row this is a premise. The card (YtcolecidbalmhaaDoorCards.lean) ties it to the program's text. -/
def laid_unicode_utf8_acceptRanges {H : Type} : DataW H := .agg [.agg [.lit (.int .u8 128), .lit (.int .u8 191)], .agg [.lit (.int .u8 160), .lit (.int .u8 191)], .agg [.lit (.int .u8 128), .lit (.int .u8 159)], .agg [.lit (.int .u8 144), .lit (.int .u8 191)], .agg [.lit (.int .u8 128), .lit (.int .u8 143)], .agg [.lit (.int .u8 0), .lit (.int .u8 0)], .agg [.lit (.int .u8 0), .lit (.int .u8 0)], .agg [.lit (.int .u8 0), .lit (.int .u8 0)], .agg [.lit (.int .u8 0), .lit (.int .u8 0)], .agg [.lit (.int .u8 0), .lit (.int .u8 0)], .agg [.lit (.int .u8 0), .lit (.int .u8 0)], .agg [.lit (.int .u8 0), .lit (.int .u8 0)], .agg [.lit (.int .u8 0), .lit (.int .u8 0)], .agg [.lit (.int .u8 0), .lit (.int .u8 0)], .agg [.lit (.int .u8 0), .lit (.int .u8 0)], .agg [.lit (.int .u8 0), .lit (.int .u8 0)]]
/-- One of Go's own tables, pinned by name: the form's constant. -/
def laid_unicode_CaseRanges : DataW Unit := Go.Pinned.caseRanges
/-- One of Go's own tables, pinned by name: the form's constant. -/
def laid_unicode_utf8_first : DataW Unit := Go.Pinned.utf8First
def laid_loop_example_g00618_impl_reasonTexts {H : Type} : DataW H := .agg [.lit (.string []), .lit (.string [100, 97, 110, 101]), .lit (.string [110, 111, 45, 100, 97, 110, 101]), .lit (.string [97, 99, 116, 105, 118, 101]), .lit (.string [98, 97, 99, 107, 117, 112]), .lit (.string [111, 116, 104, 101, 114]), .lit (.string [101, 120, 112, 105, 114, 101, 100]), .lit (.string [102, 105, 114, 115, 116]), .lit (.string [114, 101, 102, 117, 115, 101, 100])]

/-- 'laws.FnExactAskFault': WHATEVER THE INPUT: true; the input reads as it did. -/
def fnExactAskFaultSpec : ChangeSpec := { name := "fnExactAskFault", fn := fun _ => fun
  | [d] => { results := [.lit (.bool true)], args := [d] }
  | _ => none }
def fnExactAskFaultRow : OpenClaim := { program := "ytcolecidbalmhaadoor", sum := "4c1494e96b50644c6e09a3b2820a2e088faac81bd58a44a1b4de724a4e131db7", func := "loop.example/g00618/laws.FnExactAskFault", spec := "fnExactAskFault", inPlace := ["internal/abi.NoEscape", "internal/bytealg.MakeNoZero"], unfollowed := true, recurses := true, named := ["unicode/utf8.first", "unicode/utf8.acceptRanges", "unicode.CaseRanges"], apart := false, laid := [("unicode/utf8.acceptRanges", laid_unicode_utf8_acceptRanges), ("unicode.CaseRanges", laid_unicode_CaseRanges), ("unicode/utf8.first", laid_unicode_utf8_first)] }
def FnExactAskFaultSaid : Prop := fnExactAskFaultRow.holds Tryd.pinned (OpenSpec.ofChange fnExactAskFaultSpec)

/-- ITS FALSE NEIGHBOUR: 'it returns false'. Refute it at one input. -/
def fnExactAskFaultWrong : ChangeSpec := { name := "fnExactAskFault", fn := fun _ => fun
  | [d] => { results := [.lit (.bool false)], args := [d] }
  | _ => none }
def FnExactAskFaultWrongFalsely : Prop := fnExactAskFaultRow.holds Tryd.pinned (OpenSpec.ofChange fnExactAskFaultWrong)

/-- 'laws.FnExactUsableOf': WHATEVER THE INPUT: true; the input reads as it did. -/
def fnExactUsableOfSpec : ChangeSpec := { name := "fnExactUsableOf", fn := fun _ => fun
  | [d1, d2] => { results := [.lit (.bool true)], args := [d1, d2] }
  | _ => none }
def fnExactUsableOfRow : OpenClaim := { program := "ytcolecidbalmhaadoor", sum := "4c1494e96b50644c6e09a3b2820a2e088faac81bd58a44a1b4de724a4e131db7", func := "loop.example/g00618/laws.FnExactUsableOf", spec := "fnExactUsableOf", inPlace := ["internal/abi.NoEscape", "internal/bytealg.MakeNoZero"], unfollowed := true, recurses := true, named := ["unicode/utf8.first", "unicode/utf8.acceptRanges", "unicode.CaseRanges"], apart := false, laid := [("unicode/utf8.acceptRanges", laid_unicode_utf8_acceptRanges), ("unicode.CaseRanges", laid_unicode_CaseRanges), ("unicode/utf8.first", laid_unicode_utf8_first)] }
def FnExactUsableOfSaid : Prop := fnExactUsableOfRow.holds Tryd.pinned (OpenSpec.ofChange fnExactUsableOfSpec)

/-- ITS FALSE NEIGHBOUR: 'it returns false'. Refute it at one input. -/
def fnExactUsableOfWrong : ChangeSpec := { name := "fnExactUsableOf", fn := fun _ => fun
  | [d1, d2] => { results := [.lit (.bool false)], args := [d1, d2] }
  | _ => none }
def FnExactUsableOfWrongFalsely : Prop := fnExactUsableOfRow.holds Tryd.pinned (OpenSpec.ofChange fnExactUsableOfWrong)

/-- 'laws.FnExactReasonText': WHATEVER THE INPUT: true; the input reads as it did. -/
def fnExactReasonTextSpec : ChangeSpec := { name := "fnExactReasonText", vars := ["loop.example/g00618/impl.reasonTexts"], fn := fun _ => fun
  | [d, g1] => { results := [.lit (.bool true)], args := [d], vars := [g1] }
  | _ => none }
def fnExactReasonTextRow : OpenClaim := { program := "ytcolecidbalmhaadoor", sum := "4c1494e96b50644c6e09a3b2820a2e088faac81bd58a44a1b4de724a4e131db7", func := "loop.example/g00618/laws.FnExactReasonText", spec := "fnExactReasonText", named := ["loop.example/g00618/impl.reasonTexts"], apart := false, laid := [("loop.example/g00618/impl.reasonTexts", laid_loop_example_g00618_impl_reasonTexts)] }
def FnExactReasonTextSaid : Prop := fnExactReasonTextRow.holds Tryd.pinned (OpenSpec.ofChange fnExactReasonTextSpec)

/-- ITS FALSE NEIGHBOUR: 'it returns false'. Refute it at one input. -/
def fnExactReasonTextWrong : ChangeSpec := { name := "fnExactReasonText", vars := ["loop.example/g00618/impl.reasonTexts"], fn := fun _ => fun
  | [d, g1] => { results := [.lit (.bool false)], args := [d], vars := [g1] }
  | _ => none }
def FnExactReasonTextWrongFalsely : Prop := fnExactReasonTextRow.holds Tryd.pinned (OpenSpec.ofChange fnExactReasonTextWrong)

/- THE SECOND FORM. 'bulk': how many values and letters a reading holds, each counted each time it is reached (what is shared counts as often as it is met; a slice's spare places count too). A statement '..UptoSaid' is the law's where the arguments, and the package variables that the reading takes, are together of bulk at most 1048576: NARROWER than '..Said'. Prove '..Said' where nothing that the law and all that it calls make is longer than what came in: it says more and counts as full. Else prove '..UptoSaid'. A law counts once. -/
mutual
def uptoBulk {H : Type} : DataW H → Nat
  | .lit (.string bytes) => bytes.length + 1
  | .lit _ => 1
  | .nil => 1
  | .ptr d => uptoBulk d + 1
  | .slice elems spare => uptoBulkAll elems + uptoBulkAll spare + 1
  | .agg parts => uptoBulkAll parts + 1
  | .iface _ d => uptoBulk d + 1
  | .map entries => uptoBulkEntries entries + 1
  | .held _ => 1
def uptoBulkAll {H : Type} : List (DataW H) → Nat
  | [] => 0
  | d :: r => uptoBulk d + uptoBulkAll r
def uptoBulkEntries {H : Type} : List (Lit × DataW H) → Nat
  | [] => 0
  | x :: r => uptoBulkEntry x + uptoBulkEntries r
def uptoBulkEntry {H : Type} : Lit × DataW H → Nat
  | (.string bytes, d) => bytes.length + uptoBulk d + 1
  | (_, d) => uptoBulk d + 1
 end
def uptoSmall : (H : Type) → List (DataW H) → Bool := fun _ ds => decide (uptoBulkAll ds ≤ 1048576)
def OpenSpec.upto (s : _root_.Go.ChangeSpec) : _root_.Go.OpenSpec := { _root_.Go.OpenSpec.ofChange s with cond := some uptoSmall }

/-- 'laws.FnExactAskFault', WHERE WHAT IT READS IS OF BULK AT MOST 1048576: true; the input reads as it did. -/
def fnExactAskFaultUptoRow : OpenClaim := { program := "ytcolecidbalmhaadoor", sum := "4c1494e96b50644c6e09a3b2820a2e088faac81bd58a44a1b4de724a4e131db7", func := "loop.example/g00618/laws.FnExactAskFault", spec := "fnExactAskFault", inPlace := ["internal/abi.NoEscape", "internal/bytealg.MakeNoZero"], unfollowed := true, recurses := true, named := ["unicode/utf8.first", "unicode/utf8.acceptRanges", "unicode.CaseRanges"], apart := false, laid := [("unicode/utf8.acceptRanges", laid_unicode_utf8_acceptRanges), ("unicode.CaseRanges", laid_unicode_CaseRanges), ("unicode/utf8.first", laid_unicode_utf8_first)], narrowed := true }
def FnExactAskFaultUptoSaid : Prop := fnExactAskFaultUptoRow.holds Tryd.pinned (OpenSpec.upto fnExactAskFaultSpec)

/-- 'laws.FnExactUsableOf', WHERE WHAT IT READS IS OF BULK AT MOST 1048576: true; the input reads as it did. -/
def fnExactUsableOfUptoRow : OpenClaim := { program := "ytcolecidbalmhaadoor", sum := "4c1494e96b50644c6e09a3b2820a2e088faac81bd58a44a1b4de724a4e131db7", func := "loop.example/g00618/laws.FnExactUsableOf", spec := "fnExactUsableOf", inPlace := ["internal/abi.NoEscape", "internal/bytealg.MakeNoZero"], unfollowed := true, recurses := true, named := ["unicode/utf8.first", "unicode/utf8.acceptRanges", "unicode.CaseRanges"], apart := false, laid := [("unicode/utf8.acceptRanges", laid_unicode_utf8_acceptRanges), ("unicode.CaseRanges", laid_unicode_CaseRanges), ("unicode/utf8.first", laid_unicode_utf8_first)], narrowed := true }
def FnExactUsableOfUptoSaid : Prop := fnExactUsableOfUptoRow.holds Tryd.pinned (OpenSpec.upto fnExactUsableOfSpec)

/-- 'laws.FnExactReasonText', WHERE WHAT IT READS IS OF BULK AT MOST 1048576: true; the input reads as it did. -/
def fnExactReasonTextUptoRow : OpenClaim := { program := "ytcolecidbalmhaadoor", sum := "4c1494e96b50644c6e09a3b2820a2e088faac81bd58a44a1b4de724a4e131db7", func := "loop.example/g00618/laws.FnExactReasonText", spec := "fnExactReasonText", named := ["loop.example/g00618/impl.reasonTexts"], apart := false, laid := [("loop.example/g00618/impl.reasonTexts", laid_loop_example_g00618_impl_reasonTexts)], narrowed := true }
def FnExactReasonTextUptoSaid : Prop := fnExactReasonTextUptoRow.holds Tryd.pinned (OpenSpec.upto fnExactReasonTextSpec)

end Rows
end Go.Proofs.YtcolecidbalmhaaDoor
