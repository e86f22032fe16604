/-
  NARROWER THAN 'FOR EVERY INPUT', by the rows' own cells (each row's printed sentence says how): FnExactClientFault: laid · FnExactStartClient: laid · FnExactKeysOf: laid · FnExactFinishOf: laid.
  DERIVED. THE GIVEN ROWS OF THIS SEAT. 4 by the template 'for every input the law returns true; each argument reads behind the call as it read before'; 0 by the template 'total and deterministic' (their statements: YtlodhleihnlchaaDoorTotals.lean).
  GIVEN WITH THE SEED: the statements are not yours to turn. If you find one false, say at which input.
  Laid BY PROGRAM, IN A SANDBOX (cutbox-rows.mjs): the forced cells as the released guide's own fill.sh prints them over the translation c723f8b46f4679df… (all of the seat's roots in one cut). By AI agents, Wed Nov 11 2026. No macro, syntax, notation, axiom, sorry.
-/
import Derived.Test.YtlodhleihnlchaaDoorChecked
import GoSem.PinnedTables
import GoSem.Claim
import GoSem.ClaimJoined
import GoSem.ClaimMapViews
import Derived.JoinedTies
import Derived.KernelRfl
namespace Go.Proofs.YtlodhleihnlchaaDoor
/- THE CELL 'sum', in the pinned program and in every row, IS THE sha256 OF THE DUMP (.gsa) THAT YtlodhleihnlchaaDoorProg.lean LOADS. Nothing in Lean hashes anything: it is a label: what it is worth is what the hold of that sum in a sandbox is worth. -/
noncomputable def Tryd.pinned : Pinned := { name := "ytlodhleihnlchaadoor", sum := "c723f8b46f4679dff6911dc47849985c5704d469596c2e67c7be232e014fb980", checked := Tryd.checked }
namespace Rows
def none {H : Type} : Left H := { results := [], args := [] }

/- WHAT THE LISTED PACKAGE-LEVEL VARIABLES READ AS WHEN THE CALL BEGINS. Each datum BY PROGRAM (the guide's laid-datum.mjs) off the statement by which the dump's own 'gosem.cut.vars' lays the variable. In a bare row this is a premise. The card (YtlodhleihnlchaaDoorCards.lean) ties it to the program's text. -/
def laid_unicode_utf8_acceptRanges {H : Type} : DataW H := .agg [.agg [.lit (.int .u8 128), .lit (.int .u8 191)], .agg [.lit (.int .u8 160), .lit (.int .u8 191)], .agg [.lit (.int .u8 128), .lit (.int .u8 159)], .agg [.lit (.int .u8 144), .lit (.int .u8 191)], .agg [.lit (.int .u8 128), .lit (.int .u8 143)], .agg [.lit (.int .u8 0), .lit (.int .u8 0)], .agg [.lit (.int .u8 0), .lit (.int .u8 0)], .agg [.lit (.int .u8 0), .lit (.int .u8 0)], .agg [.lit (.int .u8 0), .lit (.int .u8 0)], .agg [.lit (.int .u8 0), .lit (.int .u8 0)], .agg [.lit (.int .u8 0), .lit (.int .u8 0)], .agg [.lit (.int .u8 0), .lit (.int .u8 0)], .agg [.lit (.int .u8 0), .lit (.int .u8 0)], .agg [.lit (.int .u8 0), .lit (.int .u8 0)], .agg [.lit (.int .u8 0), .lit (.int .u8 0)], .agg [.lit (.int .u8 0), .lit (.int .u8 0)]]
/-- One of Go's own tables, pinned by name: the form's constant. -/
def laid_unicode_CaseRanges : DataW Unit := Go.Pinned.caseRanges
/-- One of Go's own tables, pinned by name: the form's constant. -/
def laid_unicode_utf8_first : DataW Unit := Go.Pinned.utf8First
def laid_loop_example_g00618_impl_labels {H : Type} : DataW H := .agg [.lit (.string [115, 116, 114, 101, 97, 109]), .lit (.string [104, 101, 97, 114, 100]), .lit (.string [110, 111, 110, 99, 101]), .lit (.string [115, 105, 103, 110]), .lit (.string [109, 97, 99]), .lit (.string [115, 101, 97, 108]), .lit (.string [115, 112, 107, 105]), .lit (.string [114, 111, 108, 108]), .lit (.string [109, 97, 115, 116, 101, 114]), .lit (.string [118, 101, 114, 105, 102, 121]), .lit (.string [102, 105, 110, 105, 115, 104]), .lit (.string [117, 112]), .lit (.string [100, 111, 119, 110])]

/-- 'laws.FnExactClientFault': WHATEVER THE INPUT: true; the input reads as it did. -/
def fnExactClientFaultSpec : ChangeSpec := { name := "fnExactClientFault", fn := fun _ => fun
  | [d] => { results := [.lit (.bool true)], args := [d] }
  | _ => none }
def fnExactClientFaultRow : OpenClaim := { program := "ytlodhleihnlchaadoor", sum := "c723f8b46f4679dff6911dc47849985c5704d469596c2e67c7be232e014fb980", func := "loop.example/g00618/laws.FnExactClientFault", spec := "fnExactClientFault", inPlace := ["internal/abi.NoEscape", "internal/bytealg.MakeNoZero"], unfollowed := true, recurses := true, named := ["unicode/utf8.first", "unicode/utf8.acceptRanges", "unicode.CaseRanges"], apart := false, laid := [("unicode/utf8.acceptRanges", laid_unicode_utf8_acceptRanges), ("unicode.CaseRanges", laid_unicode_CaseRanges), ("unicode/utf8.first", laid_unicode_utf8_first)] }
def FnExactClientFaultSaid : Prop := fnExactClientFaultRow.holds Tryd.pinned (OpenSpec.ofChange fnExactClientFaultSpec)

/-- ITS FALSE NEIGHBOUR: 'it returns false'. Refute it at one input. -/
def fnExactClientFaultWrong : ChangeSpec := { name := "fnExactClientFault", fn := fun _ => fun
  | [d] => { results := [.lit (.bool false)], args := [d] }
  | _ => none }
def FnExactClientFaultWrongFalsely : Prop := fnExactClientFaultRow.holds Tryd.pinned (OpenSpec.ofChange fnExactClientFaultWrong)

/-- 'laws.FnExactStartClient': WHATEVER THE INPUT: true; the input reads as it did. -/
def fnExactStartClientSpec : ChangeSpec := { name := "fnExactStartClient", fn := fun _ => fun
  | [d1, d2, d3] => { results := [.lit (.bool true)], args := [d1, d2, d3] }
  | _ => none }
def fnExactStartClientRow : OpenClaim := { program := "ytlodhleihnlchaadoor", sum := "c723f8b46f4679dff6911dc47849985c5704d469596c2e67c7be232e014fb980", func := "loop.example/g00618/laws.FnExactStartClient", spec := "fnExactStartClient", inPlace := ["internal/abi.NoEscape", "internal/bytealg.MakeNoZero"], unfollowed := true, recurses := true, named := ["unicode/utf8.first", "unicode/utf8.acceptRanges", "unicode.CaseRanges"], apart := false, laid := [("unicode/utf8.acceptRanges", laid_unicode_utf8_acceptRanges), ("unicode.CaseRanges", laid_unicode_CaseRanges), ("unicode/utf8.first", laid_unicode_utf8_first)] }
def FnExactStartClientSaid : Prop := fnExactStartClientRow.holds Tryd.pinned (OpenSpec.ofChange fnExactStartClientSpec)

/-- ITS FALSE NEIGHBOUR: 'it returns false'. Refute it at one input. -/
def fnExactStartClientWrong : ChangeSpec := { name := "fnExactStartClient", fn := fun _ => fun
  | [d1, d2, d3] => { results := [.lit (.bool false)], args := [d1, d2, d3] }
  | _ => none }
def FnExactStartClientWrongFalsely : Prop := fnExactStartClientRow.holds Tryd.pinned (OpenSpec.ofChange fnExactStartClientWrong)

/-- 'laws.FnExactKeysOf': WHATEVER THE INPUT: true; the input reads as it did. -/
def fnExactKeysOfSpec : ChangeSpec := { name := "fnExactKeysOf", vars := ["loop.example/g00618/impl.labels"], fn := fun _ => fun
  | [d1, d2, d3, g1] => { results := [.lit (.bool true)], args := [d1, d2, d3], vars := [g1] }
  | _ => none }
def fnExactKeysOfRow : OpenClaim := { program := "ytlodhleihnlchaadoor", sum := "c723f8b46f4679dff6911dc47849985c5704d469596c2e67c7be232e014fb980", func := "loop.example/g00618/laws.FnExactKeysOf", spec := "fnExactKeysOf", unfollowed := true, recurses := true, named := ["loop.example/g00618/impl.labels"], apart := false, laid := [("loop.example/g00618/impl.labels", laid_loop_example_g00618_impl_labels)] }
def FnExactKeysOfSaid : Prop := fnExactKeysOfRow.holds Tryd.pinned (OpenSpec.ofChange fnExactKeysOfSpec)

/-- ITS FALSE NEIGHBOUR: 'it returns false'. Refute it at one input. -/
def fnExactKeysOfWrong : ChangeSpec := { name := "fnExactKeysOf", vars := ["loop.example/g00618/impl.labels"], fn := fun _ => fun
  | [d1, d2, d3, g1] => { results := [.lit (.bool false)], args := [d1, d2, d3], vars := [g1] }
  | _ => none }
def FnExactKeysOfWrongFalsely : Prop := fnExactKeysOfRow.holds Tryd.pinned (OpenSpec.ofChange fnExactKeysOfWrong)

/-- 'laws.FnExactFinishOf': WHATEVER THE INPUT: true; the input reads as it did. -/
def fnExactFinishOfSpec : ChangeSpec := { name := "fnExactFinishOf", vars := ["loop.example/g00618/impl.labels"], fn := fun _ => fun
  | [d1, d2, g1] => { results := [.lit (.bool true)], args := [d1, d2], vars := [g1] }
  | _ => none }
def fnExactFinishOfRow : OpenClaim := { program := "ytlodhleihnlchaadoor", sum := "c723f8b46f4679dff6911dc47849985c5704d469596c2e67c7be232e014fb980", func := "loop.example/g00618/laws.FnExactFinishOf", spec := "fnExactFinishOf", unfollowed := true, recurses := true, named := ["loop.example/g00618/impl.labels"], apart := false, laid := [("loop.example/g00618/impl.labels", laid_loop_example_g00618_impl_labels)] }
def FnExactFinishOfSaid : Prop := fnExactFinishOfRow.holds Tryd.pinned (OpenSpec.ofChange fnExactFinishOfSpec)

/-- ITS FALSE NEIGHBOUR: 'it returns false'. Refute it at one input. -/
def fnExactFinishOfWrong : ChangeSpec := { name := "fnExactFinishOf", vars := ["loop.example/g00618/impl.labels"], fn := fun _ => fun
  | [d1, d2, g1] => { results := [.lit (.bool false)], args := [d1, d2], vars := [g1] }
  | _ => none }
def FnExactFinishOfWrongFalsely : Prop := fnExactFinishOfRow.holds Tryd.pinned (OpenSpec.ofChange fnExactFinishOfWrong)

/- THE SECOND FORM. 'bulk': how many values and letters a reading holds, each counted each time it is reached (what is shared counts as often as it is met; a slice's spare places count too). A statement '..UptoSaid' is the law's where the arguments, and the package variables that the reading takes, are together of bulk at most 1048576: NARROWER than '..Said'. Prove '..Said' where nothing that the law and all that it calls make is longer than what came in: it says more and counts as full. Else prove '..UptoSaid'. A law counts once. -/
mutual
def uptoBulk {H : Type} : DataW H → Nat
  | .lit (.string bytes) => bytes.length + 1
  | .lit _ => 1
  | .nil => 1
  | .ptr d => uptoBulk d + 1
  | .slice elems spare => uptoBulkAll elems + uptoBulkAll spare + 1
  | .agg parts => uptoBulkAll parts + 1
  | .iface _ d => uptoBulk d + 1
  | .map entries => uptoBulkEntries entries + 1
  | .held _ => 1
def uptoBulkAll {H : Type} : List (DataW H) → Nat
  | [] => 0
  | d :: r => uptoBulk d + uptoBulkAll r
def uptoBulkEntries {H : Type} : List (Lit × DataW H) → Nat
  | [] => 0
  | x :: r => uptoBulkEntry x + uptoBulkEntries r
def uptoBulkEntry {H : Type} : Lit × DataW H → Nat
  | (.string bytes, d) => bytes.length + uptoBulk d + 1
  | (_, d) => uptoBulk d + 1
 end
def uptoSmall : (H : Type) → List (DataW H) → Bool := fun _ ds => decide (uptoBulkAll ds ≤ 1048576)
def OpenSpec.upto (s : _root_.Go.ChangeSpec) : _root_.Go.OpenSpec := { _root_.Go.OpenSpec.ofChange s with cond := some uptoSmall }

/-- 'laws.FnExactClientFault', WHERE WHAT IT READS IS OF BULK AT MOST 1048576: true; the input reads as it did. -/
def fnExactClientFaultUptoRow : OpenClaim := { program := "ytlodhleihnlchaadoor", sum := "c723f8b46f4679dff6911dc47849985c5704d469596c2e67c7be232e014fb980", func := "loop.example/g00618/laws.FnExactClientFault", spec := "fnExactClientFault", inPlace := ["internal/abi.NoEscape", "internal/bytealg.MakeNoZero"], unfollowed := true, recurses := true, named := ["unicode/utf8.first", "unicode/utf8.acceptRanges", "unicode.CaseRanges"], apart := false, laid := [("unicode/utf8.acceptRanges", laid_unicode_utf8_acceptRanges), ("unicode.CaseRanges", laid_unicode_CaseRanges), ("unicode/utf8.first", laid_unicode_utf8_first)], narrowed := true }
def FnExactClientFaultUptoSaid : Prop := fnExactClientFaultUptoRow.holds Tryd.pinned (OpenSpec.upto fnExactClientFaultSpec)

/-- 'laws.FnExactStartClient', WHERE WHAT IT READS IS OF BULK AT MOST 1048576: true; the input reads as it did. -/
def fnExactStartClientUptoRow : OpenClaim := { program := "ytlodhleihnlchaadoor", sum := "c723f8b46f4679dff6911dc47849985c5704d469596c2e67c7be232e014fb980", func := "loop.example/g00618/laws.FnExactStartClient", spec := "fnExactStartClient", inPlace := ["internal/abi.NoEscape", "internal/bytealg.MakeNoZero"], unfollowed := true, recurses := true, named := ["unicode/utf8.first", "unicode/utf8.acceptRanges", "unicode.CaseRanges"], apart := false, laid := [("unicode/utf8.acceptRanges", laid_unicode_utf8_acceptRanges), ("unicode.CaseRanges", laid_unicode_CaseRanges), ("unicode/utf8.first", laid_unicode_utf8_first)], narrowed := true }
def FnExactStartClientUptoSaid : Prop := fnExactStartClientUptoRow.holds Tryd.pinned (OpenSpec.upto fnExactStartClientSpec)

/-- 'laws.FnExactKeysOf', WHERE WHAT IT READS IS OF BULK AT MOST 1048576: true; the input reads as it did. -/
def fnExactKeysOfUptoRow : OpenClaim := { program := "ytlodhleihnlchaadoor", sum := "c723f8b46f4679dff6911dc47849985c5704d469596c2e67c7be232e014fb980", func := "loop.example/g00618/laws.FnExactKeysOf", spec := "fnExactKeysOf", unfollowed := true, recurses := true, named := ["loop.example/g00618/impl.labels"], apart := false, laid := [("loop.example/g00618/impl.labels", laid_loop_example_g00618_impl_labels)], narrowed := true }
def FnExactKeysOfUptoSaid : Prop := fnExactKeysOfUptoRow.holds Tryd.pinned (OpenSpec.upto fnExactKeysOfSpec)

/-- 'laws.FnExactFinishOf', WHERE WHAT IT READS IS OF BULK AT MOST 1048576: true; the input reads as it did. -/
def fnExactFinishOfUptoRow : OpenClaim := { program := "ytlodhleihnlchaadoor", sum := "c723f8b46f4679dff6911dc47849985c5704d469596c2e67c7be232e014fb980", func := "loop.example/g00618/laws.FnExactFinishOf", spec := "fnExactFinishOf", unfollowed := true, recurses := true, named := ["loop.example/g00618/impl.labels"], apart := false, laid := [("loop.example/g00618/impl.labels", laid_loop_example_g00618_impl_labels)], narrowed := true }
def FnExactFinishOfUptoSaid : Prop := fnExactFinishOfUptoRow.holds Tryd.pinned (OpenSpec.upto fnExactFinishOfSpec)

end Rows
end Go.Proofs.YtlodhleihnlchaaDoor
