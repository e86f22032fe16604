/-
  NARROWER THAN 'FOR EVERY INPUT', by the rows' own cells (each row's printed sentence says how): FnExactHelloFault: laid · FnExactPackHello: laid · FnExactReadHello: ifaces, laid · FnExactReplyFault: laid · FnExactPackReply: laid · FnExactReadReply: ifaces, laid.
  DERIVED. THE GIVEN ROWS OF THIS SEAT. 6 by the template 'for every input the law returns true; each argument reads behind the call as it read before'; 0 by the template 'total and deterministic' (their statements: YtepailfhagaboaaDoorTotals.lean).
  GIVEN WITH THE SEED: the statements are not yours to turn. If you find one false, say at which input.
  Laid BY PROGRAM, IN A SANDBOX (cutbox-rows.mjs): the forced cells as the released guide's own fill.sh prints them over the translation d3fd950ab278f582… (all of the seat's roots in one cut). By AI agents, Wed Nov 11 2026. No macro, syntax, notation, axiom, sorry.
-/
import Derived.Test.YtepailfhagaboaaDoorChecked
import GoSem.PinnedTables
import GoSem.Claim
import GoSem.ClaimJoined
import GoSem.ClaimMapViews
import Derived.JoinedTies
import Derived.KernelRfl
namespace Go.Proofs.YtepailfhagaboaaDoor
/- THE CELL 'sum', in the pinned program and in every row, IS THE sha256 OF THE DUMP (.gsa) THAT YtepailfhagaboaaDoorProg.lean LOADS. Nothing in Lean hashes anything: it is a label: what it is worth is what the hold of that sum in a sandbox is worth. -/
noncomputable def Tryd.pinned : Pinned := { name := "ytepailfhagaboaadoor", sum := "d3fd950ab278f582b48d11423571d3fb715d21504b79b1f09431a862b7a75a2a", checked := Tryd.checked }
namespace Rows
def none {H : Type} : Left H := { results := [], args := [] }

/- WHAT THE LISTED PACKAGE-LEVEL VARIABLES READ AS WHEN THE CALL BEGINS. Each datum BY PROGRAM (the guide's laid-datum.mjs) off the statement by which the dump's own 'gosem.cut.vars' lays the variable. In a bare row this is a premise. The card (YtepailfhagaboaaDoorCards.lean) ties it to the program's text. -/
def laid_unicode_utf8_acceptRanges {H : Type} : DataW H := .agg [.agg [.lit (.int .u8 128), .lit (.int .u8 191)], .agg [.lit (.int .u8 160), .lit (.int .u8 191)], .agg [.lit (.int .u8 128), .lit (.int .u8 159)], .agg [.lit (.int .u8 144), .lit (.int .u8 191)], .agg [.lit (.int .u8 128), .lit (.int .u8 143)], .agg [.lit (.int .u8 0), .lit (.int .u8 0)], .agg [.lit (.int .u8 0), .lit (.int .u8 0)], .agg [.lit (.int .u8 0), .lit (.int .u8 0)], .agg [.lit (.int .u8 0), .lit (.int .u8 0)], .agg [.lit (.int .u8 0), .lit (.int .u8 0)], .agg [.lit (.int .u8 0), .lit (.int .u8 0)], .agg [.lit (.int .u8 0), .lit (.int .u8 0)], .agg [.lit (.int .u8 0), .lit (.int .u8 0)], .agg [.lit (.int .u8 0), .lit (.int .u8 0)], .agg [.lit (.int .u8 0), .lit (.int .u8 0)], .agg [.lit (.int .u8 0), .lit (.int .u8 0)]]
/-- One of Go's own tables, pinned by name: the form's constant. -/
def laid_unicode_CaseRanges : DataW Unit := Go.Pinned.caseRanges
/-- One of Go's own tables, pinned by name: the form's constant. -/
def laid_unicode_utf8_first : DataW Unit := Go.Pinned.utf8First
def laid_errors_errorType {H : Type} : DataW H := .iface "internal/reflectlite.rtype" (.agg [.ptr (.lit (.string [101, 114, 114, 111, 114]))])
def laid_loop_example_g00618_impl_errUnread {H : Type} : DataW H := .iface "*errors.errorString" (.ptr (.agg [.lit (.string [116, 104, 101, 32, 98, 121, 116, 101, 115, 32, 97, 114, 101, 32, 116, 104, 111, 115, 101, 32, 111, 102, 32, 110, 111, 32, 119, 111, 114, 100])]))

/-- 'laws.FnExactHelloFault': WHATEVER THE INPUT: true; the input reads as it did. -/
def fnExactHelloFaultSpec : ChangeSpec := { name := "fnExactHelloFault", fn := fun _ => fun
  | [d] => { results := [.lit (.bool true)], args := [d] }
  | _ => none }
def fnExactHelloFaultRow : OpenClaim := { program := "ytepailfhagaboaadoor", sum := "d3fd950ab278f582b48d11423571d3fb715d21504b79b1f09431a862b7a75a2a", func := "loop.example/g00618/laws.FnExactHelloFault", spec := "fnExactHelloFault", inPlace := ["internal/abi.NoEscape", "internal/bytealg.MakeNoZero"], unfollowed := true, recurses := true, named := ["unicode/utf8.first", "unicode/utf8.acceptRanges", "unicode.CaseRanges"], apart := false, laid := [("unicode/utf8.acceptRanges", laid_unicode_utf8_acceptRanges), ("unicode.CaseRanges", laid_unicode_CaseRanges), ("unicode/utf8.first", laid_unicode_utf8_first)] }
def FnExactHelloFaultSaid : Prop := fnExactHelloFaultRow.holds Tryd.pinned (OpenSpec.ofChange fnExactHelloFaultSpec)

/-- ITS FALSE NEIGHBOUR: 'it returns false'. Refute it at one input. -/
def fnExactHelloFaultWrong : ChangeSpec := { name := "fnExactHelloFault", fn := fun _ => fun
  | [d] => { results := [.lit (.bool false)], args := [d] }
  | _ => none }
def FnExactHelloFaultWrongFalsely : Prop := fnExactHelloFaultRow.holds Tryd.pinned (OpenSpec.ofChange fnExactHelloFaultWrong)

/-- 'laws.FnExactPackHello': WHATEVER THE INPUT: true; the input reads as it did. -/
def fnExactPackHelloSpec : ChangeSpec := { name := "fnExactPackHello", fn := fun _ => fun
  | [d] => { results := [.lit (.bool true)], args := [d] }
  | _ => none }
def fnExactPackHelloRow : OpenClaim := { program := "ytepailfhagaboaadoor", sum := "d3fd950ab278f582b48d11423571d3fb715d21504b79b1f09431a862b7a75a2a", func := "loop.example/g00618/laws.FnExactPackHello", spec := "fnExactPackHello", inPlace := ["internal/reflectlite.ValueOf", "(internal/reflectlite.Value).Type", "(internal/reflectlite.Value).IsNil", "internal/reflectlite.TypeOf", "(internal/reflectlite.Value).Elem", "(internal/reflectlite.Value).Set"], unfollowed := true, recurses := true, named := ["errors.errorType"], apart := false, laid := [("errors.errorType", laid_errors_errorType)] }
def FnExactPackHelloSaid : Prop := fnExactPackHelloRow.holds Tryd.pinned (OpenSpec.ofChange fnExactPackHelloSpec)

/-- ITS FALSE NEIGHBOUR: 'it returns false'. Refute it at one input. -/
def fnExactPackHelloWrong : ChangeSpec := { name := "fnExactPackHello", fn := fun _ => fun
  | [d] => { results := [.lit (.bool false)], args := [d] }
  | _ => none }
def FnExactPackHelloWrongFalsely : Prop := fnExactPackHelloRow.holds Tryd.pinned (OpenSpec.ofChange fnExactPackHelloWrong)

/-- 'laws.FnExactReadHello': WHATEVER THE INPUT: true; the input reads as it did. -/
def fnExactReadHelloSpec : ChangeSpec := { name := "fnExactReadHello", vars := ["loop.example/g00618/impl.errUnread"], fn := fun _ => fun
  | [d, g1] => { results := [.lit (.bool true)], args := [d], vars := [g1] }
  | _ => none }
def fnExactReadHelloRow : OpenClaim := { program := "ytepailfhagaboaadoor", sum := "d3fd950ab278f582b48d11423571d3fb715d21504b79b1f09431a862b7a75a2a", func := "loop.example/g00618/laws.FnExactReadHello", spec := "fnExactReadHello", unfollowed := true, recurses := true, named := ["loop.example/g00618/impl.errUnread"], ifaces := true, apart := false, laid := [("loop.example/g00618/impl.errUnread", laid_loop_example_g00618_impl_errUnread)] }
def FnExactReadHelloSaid : Prop := fnExactReadHelloRow.holds Tryd.pinned (OpenSpec.ofChange fnExactReadHelloSpec)

/-- ITS FALSE NEIGHBOUR: 'it returns false'. Refute it at one input. -/
def fnExactReadHelloWrong : ChangeSpec := { name := "fnExactReadHello", vars := ["loop.example/g00618/impl.errUnread"], fn := fun _ => fun
  | [d, g1] => { results := [.lit (.bool false)], args := [d], vars := [g1] }
  | _ => none }
def FnExactReadHelloWrongFalsely : Prop := fnExactReadHelloRow.holds Tryd.pinned (OpenSpec.ofChange fnExactReadHelloWrong)

/-- 'laws.FnExactReplyFault': WHATEVER THE INPUT: true; the input reads as it did. -/
def fnExactReplyFaultSpec : ChangeSpec := { name := "fnExactReplyFault", fn := fun _ => fun
  | [d] => { results := [.lit (.bool true)], args := [d] }
  | _ => none }
def fnExactReplyFaultRow : OpenClaim := { program := "ytepailfhagaboaadoor", sum := "d3fd950ab278f582b48d11423571d3fb715d21504b79b1f09431a862b7a75a2a", func := "loop.example/g00618/laws.FnExactReplyFault", spec := "fnExactReplyFault", inPlace := ["internal/reflectlite.ValueOf", "(internal/reflectlite.Value).Type", "(internal/reflectlite.Value).IsNil", "internal/reflectlite.TypeOf", "(internal/reflectlite.Value).Elem", "(internal/reflectlite.Value).Set"], unfollowed := true, recurses := true, named := ["errors.errorType"], apart := false, laid := [("errors.errorType", laid_errors_errorType)] }
def FnExactReplyFaultSaid : Prop := fnExactReplyFaultRow.holds Tryd.pinned (OpenSpec.ofChange fnExactReplyFaultSpec)

/-- ITS FALSE NEIGHBOUR: 'it returns false'. Refute it at one input. -/
def fnExactReplyFaultWrong : ChangeSpec := { name := "fnExactReplyFault", fn := fun _ => fun
  | [d] => { results := [.lit (.bool false)], args := [d] }
  | _ => none }
def FnExactReplyFaultWrongFalsely : Prop := fnExactReplyFaultRow.holds Tryd.pinned (OpenSpec.ofChange fnExactReplyFaultWrong)

/-- 'laws.FnExactPackReply': WHATEVER THE INPUT: true; the input reads as it did. -/
def fnExactPackReplySpec : ChangeSpec := { name := "fnExactPackReply", fn := fun _ => fun
  | [d] => { results := [.lit (.bool true)], args := [d] }
  | _ => none }
def fnExactPackReplyRow : OpenClaim := { program := "ytepailfhagaboaadoor", sum := "d3fd950ab278f582b48d11423571d3fb715d21504b79b1f09431a862b7a75a2a", func := "loop.example/g00618/laws.FnExactPackReply", spec := "fnExactPackReply", inPlace := ["internal/reflectlite.ValueOf", "(internal/reflectlite.Value).Type", "(internal/reflectlite.Value).IsNil", "internal/reflectlite.TypeOf", "(internal/reflectlite.Value).Elem", "(internal/reflectlite.Value).Set"], unfollowed := true, recurses := true, named := ["errors.errorType"], apart := false, laid := [("errors.errorType", laid_errors_errorType)] }
def FnExactPackReplySaid : Prop := fnExactPackReplyRow.holds Tryd.pinned (OpenSpec.ofChange fnExactPackReplySpec)

/-- ITS FALSE NEIGHBOUR: 'it returns false'. Refute it at one input. -/
def fnExactPackReplyWrong : ChangeSpec := { name := "fnExactPackReply", fn := fun _ => fun
  | [d] => { results := [.lit (.bool false)], args := [d] }
  | _ => none }
def FnExactPackReplyWrongFalsely : Prop := fnExactPackReplyRow.holds Tryd.pinned (OpenSpec.ofChange fnExactPackReplyWrong)

/-- 'laws.FnExactReadReply': WHATEVER THE INPUT: true; the input reads as it did. -/
def fnExactReadReplySpec : ChangeSpec := { name := "fnExactReadReply", vars := ["loop.example/g00618/impl.errUnread"], fn := fun _ => fun
  | [d, g1] => { results := [.lit (.bool true)], args := [d], vars := [g1] }
  | _ => none }
def fnExactReadReplyRow : OpenClaim := { program := "ytepailfhagaboaadoor", sum := "d3fd950ab278f582b48d11423571d3fb715d21504b79b1f09431a862b7a75a2a", func := "loop.example/g00618/laws.FnExactReadReply", spec := "fnExactReadReply", unfollowed := true, recurses := true, named := ["loop.example/g00618/impl.errUnread"], ifaces := true, apart := false, laid := [("loop.example/g00618/impl.errUnread", laid_loop_example_g00618_impl_errUnread)] }
def FnExactReadReplySaid : Prop := fnExactReadReplyRow.holds Tryd.pinned (OpenSpec.ofChange fnExactReadReplySpec)

/-- ITS FALSE NEIGHBOUR: 'it returns false'. Refute it at one input. -/
def fnExactReadReplyWrong : ChangeSpec := { name := "fnExactReadReply", vars := ["loop.example/g00618/impl.errUnread"], fn := fun _ => fun
  | [d, g1] => { results := [.lit (.bool false)], args := [d], vars := [g1] }
  | _ => none }
def FnExactReadReplyWrongFalsely : Prop := fnExactReadReplyRow.holds Tryd.pinned (OpenSpec.ofChange fnExactReadReplyWrong)

/- THE SECOND FORM. 'bulk': how many values and letters a reading holds, each counted each time it is reached (what is shared counts as often as it is met; a slice's spare places count too). A statement '..UptoSaid' is the law's where the arguments, and the package variables that the reading takes, are together of bulk at most 1048576: NARROWER than '..Said'. Prove '..Said' where nothing that the law and all that it calls make is longer than what came in: it says more and counts as full. Else prove '..UptoSaid'. A law counts once. -/
mutual
def uptoBulk {H : Type} : DataW H → Nat
  | .lit (.string bytes) => bytes.length + 1
  | .lit _ => 1
  | .nil => 1
  | .ptr d => uptoBulk d + 1
  | .slice elems spare => uptoBulkAll elems + uptoBulkAll spare + 1
  | .agg parts => uptoBulkAll parts + 1
  | .iface _ d => uptoBulk d + 1
  | .map entries => uptoBulkEntries entries + 1
  | .held _ => 1
def uptoBulkAll {H : Type} : List (DataW H) → Nat
  | [] => 0
  | d :: r => uptoBulk d + uptoBulkAll r
def uptoBulkEntries {H : Type} : List (Lit × DataW H) → Nat
  | [] => 0
  | x :: r => uptoBulkEntry x + uptoBulkEntries r
def uptoBulkEntry {H : Type} : Lit × DataW H → Nat
  | (.string bytes, d) => bytes.length + uptoBulk d + 1
  | (_, d) => uptoBulk d + 1
 end
def uptoSmall : (H : Type) → List (DataW H) → Bool := fun _ ds => decide (uptoBulkAll ds ≤ 1048576)
def OpenSpec.upto (s : _root_.Go.ChangeSpec) : _root_.Go.OpenSpec := { _root_.Go.OpenSpec.ofChange s with cond := some uptoSmall }

/-- 'laws.FnExactHelloFault', WHERE WHAT IT READS IS OF BULK AT MOST 1048576: true; the input reads as it did. -/
def fnExactHelloFaultUptoRow : OpenClaim := { program := "ytepailfhagaboaadoor", sum := "d3fd950ab278f582b48d11423571d3fb715d21504b79b1f09431a862b7a75a2a", func := "loop.example/g00618/laws.FnExactHelloFault", spec := "fnExactHelloFault", inPlace := ["internal/abi.NoEscape", "internal/bytealg.MakeNoZero"], unfollowed := true, recurses := true, named := ["unicode/utf8.first", "unicode/utf8.acceptRanges", "unicode.CaseRanges"], apart := false, laid := [("unicode/utf8.acceptRanges", laid_unicode_utf8_acceptRanges), ("unicode.CaseRanges", laid_unicode_CaseRanges), ("unicode/utf8.first", laid_unicode_utf8_first)], narrowed := true }
def FnExactHelloFaultUptoSaid : Prop := fnExactHelloFaultUptoRow.holds Tryd.pinned (OpenSpec.upto fnExactHelloFaultSpec)

/-- 'laws.FnExactPackHello', WHERE WHAT IT READS IS OF BULK AT MOST 1048576: true; the input reads as it did. -/
def fnExactPackHelloUptoRow : OpenClaim := { program := "ytepailfhagaboaadoor", sum := "d3fd950ab278f582b48d11423571d3fb715d21504b79b1f09431a862b7a75a2a", func := "loop.example/g00618/laws.FnExactPackHello", spec := "fnExactPackHello", inPlace := ["internal/reflectlite.ValueOf", "(internal/reflectlite.Value).Type", "(internal/reflectlite.Value).IsNil", "internal/reflectlite.TypeOf", "(internal/reflectlite.Value).Elem", "(internal/reflectlite.Value).Set"], unfollowed := true, recurses := true, named := ["errors.errorType"], apart := false, laid := [("errors.errorType", laid_errors_errorType)], narrowed := true }
def FnExactPackHelloUptoSaid : Prop := fnExactPackHelloUptoRow.holds Tryd.pinned (OpenSpec.upto fnExactPackHelloSpec)

/-- 'laws.FnExactReadHello', WHERE WHAT IT READS IS OF BULK AT MOST 1048576: true; the input reads as it did. -/
def fnExactReadHelloUptoRow : OpenClaim := { program := "ytepailfhagaboaadoor", sum := "d3fd950ab278f582b48d11423571d3fb715d21504b79b1f09431a862b7a75a2a", func := "loop.example/g00618/laws.FnExactReadHello", spec := "fnExactReadHello", unfollowed := true, recurses := true, named := ["loop.example/g00618/impl.errUnread"], ifaces := true, apart := false, laid := [("loop.example/g00618/impl.errUnread", laid_loop_example_g00618_impl_errUnread)], narrowed := true }
def FnExactReadHelloUptoSaid : Prop := fnExactReadHelloUptoRow.holds Tryd.pinned (OpenSpec.upto fnExactReadHelloSpec)

/-- 'laws.FnExactReplyFault', WHERE WHAT IT READS IS OF BULK AT MOST 1048576: true; the input reads as it did. -/
def fnExactReplyFaultUptoRow : OpenClaim := { program := "ytepailfhagaboaadoor", sum := "d3fd950ab278f582b48d11423571d3fb715d21504b79b1f09431a862b7a75a2a", func := "loop.example/g00618/laws.FnExactReplyFault", spec := "fnExactReplyFault", inPlace := ["internal/reflectlite.ValueOf", "(internal/reflectlite.Value).Type", "(internal/reflectlite.Value).IsNil", "internal/reflectlite.TypeOf", "(internal/reflectlite.Value).Elem", "(internal/reflectlite.Value).Set"], unfollowed := true, recurses := true, named := ["errors.errorType"], apart := false, laid := [("errors.errorType", laid_errors_errorType)], narrowed := true }
def FnExactReplyFaultUptoSaid : Prop := fnExactReplyFaultUptoRow.holds Tryd.pinned (OpenSpec.upto fnExactReplyFaultSpec)

/-- 'laws.FnExactPackReply', WHERE WHAT IT READS IS OF BULK AT MOST 1048576: true; the input reads as it did. -/
def fnExactPackReplyUptoRow : OpenClaim := { program := "ytepailfhagaboaadoor", sum := "d3fd950ab278f582b48d11423571d3fb715d21504b79b1f09431a862b7a75a2a", func := "loop.example/g00618/laws.FnExactPackReply", spec := "fnExactPackReply", inPlace := ["internal/reflectlite.ValueOf", "(internal/reflectlite.Value).Type", "(internal/reflectlite.Value).IsNil", "internal/reflectlite.TypeOf", "(internal/reflectlite.Value).Elem", "(internal/reflectlite.Value).Set"], unfollowed := true, recurses := true, named := ["errors.errorType"], apart := false, laid := [("errors.errorType", laid_errors_errorType)], narrowed := true }
def FnExactPackReplyUptoSaid : Prop := fnExactPackReplyUptoRow.holds Tryd.pinned (OpenSpec.upto fnExactPackReplySpec)

/-- 'laws.FnExactReadReply', WHERE WHAT IT READS IS OF BULK AT MOST 1048576: true; the input reads as it did. -/
def fnExactReadReplyUptoRow : OpenClaim := { program := "ytepailfhagaboaadoor", sum := "d3fd950ab278f582b48d11423571d3fb715d21504b79b1f09431a862b7a75a2a", func := "loop.example/g00618/laws.FnExactReadReply", spec := "fnExactReadReply", unfollowed := true, recurses := true, named := ["loop.example/g00618/impl.errUnread"], ifaces := true, apart := false, laid := [("loop.example/g00618/impl.errUnread", laid_loop_example_g00618_impl_errUnread)], narrowed := true }
def FnExactReadReplyUptoSaid : Prop := fnExactReadReplyUptoRow.holds Tryd.pinned (OpenSpec.upto fnExactReadReplySpec)

end Rows
end Go.Proofs.YtepailfhagaboaaDoor
