/-
  NARROWER THAN 'FOR EVERY INPUT', by the rows' own cells (each row's printed sentence says how): FnExactPinFault: laid · FnExactPinsFault: laid · FnExactFindPin: laid · FnExactPutPin: laid · FnExactIsLive: laid · FnExactPackPin: laid · FnExactReadPin: laid.
  DERIVED. THE GIVEN ROWS OF THIS SEAT. 7 by the template 'for every input the law returns true; each argument reads behind the call as it read before'; 0 by the template 'total and deterministic' (their statements: YtcnpocppgghejaaDoorTotals.lean).
  GIVEN WITH THE SEED: the statements are not yours to turn. If you find one false, say at which input.
  Laid BY PROGRAM, IN A SANDBOX (cutbox-rows.mjs): the forced cells as the released guide's own fill.sh prints them over the translation 3e28208b7bd5ba31… (all of the seat's roots in one cut). By AI agents, Wed Nov 11 2026. No macro, syntax, notation, axiom, sorry.
-/
import Derived.Test.YtcnpocppgghejaaDoorChecked
import GoSem.PinnedTables
import GoSem.Claim
import GoSem.ClaimJoined
import GoSem.ClaimMapViews
import Derived.JoinedTies
import Derived.KernelRfl
namespace Go.Proofs.YtcnpocppgghejaaDoor
/- THE CELL 'sum', in the pinned program and in every row, IS THE sha256 OF THE DUMP (.gsa) THAT YtcnpocppgghejaaDoorProg.lean LOADS. Nothing in Lean hashes anything: it is a label: what it is worth is what the hold of that sum in a sandbox is worth. -/
noncomputable def Tryd.pinned : Pinned := { name := "ytcnpocppgghejaadoor", sum := "3e28208b7bd5ba31b2d129c633810bd1e805fc018c30103cd3f788a799e33212", checked := Tryd.checked }
namespace Rows
def none {H : Type} : Left H := { results := [], args := [] }

/- WHAT THE LISTED PACKAGE-LEVEL VARIABLES READ AS WHEN THE CALL BEGINS. Each datum BY PROGRAM (the guide's laid-datum.mjs) off the statement by which the dump's own 'gosem.cut.vars' lays the variable. In a bare row this is a premise. The card (YtcnpocppgghejaaDoorCards.lean) ties it to the program's text. -/
def laid_unicode_utf8_acceptRanges {H : Type} : DataW H := .agg [.agg [.lit (.int .u8 128), .lit (.int .u8 191)], .agg [.lit (.int .u8 160), .lit (.int .u8 191)], .agg [.lit (.int .u8 128), .lit (.int .u8 159)], .agg [.lit (.int .u8 144), .lit (.int .u8 191)], .agg [.lit (.int .u8 128), .lit (.int .u8 143)], .agg [.lit (.int .u8 0), .lit (.int .u8 0)], .agg [.lit (.int .u8 0), .lit (.int .u8 0)], .agg [.lit (.int .u8 0), .lit (.int .u8 0)], .agg [.lit (.int .u8 0), .lit (.int .u8 0)], .agg [.lit (.int .u8 0), .lit (.int .u8 0)], .agg [.lit (.int .u8 0), .lit (.int .u8 0)], .agg [.lit (.int .u8 0), .lit (.int .u8 0)], .agg [.lit (.int .u8 0), .lit (.int .u8 0)], .agg [.lit (.int .u8 0), .lit (.int .u8 0)], .agg [.lit (.int .u8 0), .lit (.int .u8 0)], .agg [.lit (.int .u8 0), .lit (.int .u8 0)]]
/-- One of Go's own tables, pinned by name: the form's constant. -/
def laid_unicode_CaseRanges : DataW Unit := Go.Pinned.caseRanges
/-- One of Go's own tables, pinned by name: the form's constant. -/
def laid_unicode_utf8_first : DataW Unit := Go.Pinned.utf8First

/-- 'laws.FnExactPinFault': WHATEVER THE INPUT: true; the input reads as it did. -/
def fnExactPinFaultSpec : ChangeSpec := { name := "fnExactPinFault", fn := fun _ => fun
  | [d] => { results := [.lit (.bool true)], args := [d] }
  | _ => none }
def fnExactPinFaultRow : OpenClaim := { program := "ytcnpocppgghejaadoor", sum := "3e28208b7bd5ba31b2d129c633810bd1e805fc018c30103cd3f788a799e33212", func := "loop.example/g00618/laws.FnExactPinFault", spec := "fnExactPinFault", inPlace := ["internal/abi.NoEscape", "internal/bytealg.MakeNoZero"], unfollowed := true, recurses := true, named := ["unicode/utf8.first", "unicode/utf8.acceptRanges", "unicode.CaseRanges"], apart := false, laid := [("unicode/utf8.acceptRanges", laid_unicode_utf8_acceptRanges), ("unicode.CaseRanges", laid_unicode_CaseRanges), ("unicode/utf8.first", laid_unicode_utf8_first)] }
def FnExactPinFaultSaid : Prop := fnExactPinFaultRow.holds Tryd.pinned (OpenSpec.ofChange fnExactPinFaultSpec)

/-- ITS FALSE NEIGHBOUR: 'it returns false'. Refute it at one input. -/
def fnExactPinFaultWrong : ChangeSpec := { name := "fnExactPinFault", fn := fun _ => fun
  | [d] => { results := [.lit (.bool false)], args := [d] }
  | _ => none }
def FnExactPinFaultWrongFalsely : Prop := fnExactPinFaultRow.holds Tryd.pinned (OpenSpec.ofChange fnExactPinFaultWrong)

/-- 'laws.FnExactPinsFault': WHATEVER THE INPUT: true; the input reads as it did. -/
def fnExactPinsFaultSpec : ChangeSpec := { name := "fnExactPinsFault", fn := fun _ => fun
  | [d] => { results := [.lit (.bool true)], args := [d] }
  | _ => none }
def fnExactPinsFaultRow : OpenClaim := { program := "ytcnpocppgghejaadoor", sum := "3e28208b7bd5ba31b2d129c633810bd1e805fc018c30103cd3f788a799e33212", func := "loop.example/g00618/laws.FnExactPinsFault", spec := "fnExactPinsFault", inPlace := ["internal/abi.NoEscape", "internal/bytealg.MakeNoZero"], unfollowed := true, recurses := true, named := ["unicode/utf8.first", "unicode/utf8.acceptRanges", "unicode.CaseRanges"], apart := false, laid := [("unicode/utf8.acceptRanges", laid_unicode_utf8_acceptRanges), ("unicode.CaseRanges", laid_unicode_CaseRanges), ("unicode/utf8.first", laid_unicode_utf8_first)] }
def FnExactPinsFaultSaid : Prop := fnExactPinsFaultRow.holds Tryd.pinned (OpenSpec.ofChange fnExactPinsFaultSpec)

/-- ITS FALSE NEIGHBOUR: 'it returns false'. Refute it at one input. -/
def fnExactPinsFaultWrong : ChangeSpec := { name := "fnExactPinsFault", fn := fun _ => fun
  | [d] => { results := [.lit (.bool false)], args := [d] }
  | _ => none }
def FnExactPinsFaultWrongFalsely : Prop := fnExactPinsFaultRow.holds Tryd.pinned (OpenSpec.ofChange fnExactPinsFaultWrong)

/-- 'laws.FnExactFindPin': WHATEVER THE INPUT: true; the input reads as it did. -/
def fnExactFindPinSpec : ChangeSpec := { name := "fnExactFindPin", fn := fun _ => fun
  | [d1, d2] => { results := [.lit (.bool true)], args := [d1, d2] }
  | _ => none }
def fnExactFindPinRow : OpenClaim := { program := "ytcnpocppgghejaadoor", sum := "3e28208b7bd5ba31b2d129c633810bd1e805fc018c30103cd3f788a799e33212", func := "loop.example/g00618/laws.FnExactFindPin", spec := "fnExactFindPin", inPlace := ["internal/abi.NoEscape", "internal/bytealg.MakeNoZero"], unfollowed := true, recurses := true, named := ["unicode/utf8.first", "unicode/utf8.acceptRanges", "unicode.CaseRanges"], apart := false, laid := [("unicode/utf8.acceptRanges", laid_unicode_utf8_acceptRanges), ("unicode.CaseRanges", laid_unicode_CaseRanges), ("unicode/utf8.first", laid_unicode_utf8_first)] }
def FnExactFindPinSaid : Prop := fnExactFindPinRow.holds Tryd.pinned (OpenSpec.ofChange fnExactFindPinSpec)

/-- ITS FALSE NEIGHBOUR: 'it returns false'. Refute it at one input. -/
def fnExactFindPinWrong : ChangeSpec := { name := "fnExactFindPin", fn := fun _ => fun
  | [d1, d2] => { results := [.lit (.bool false)], args := [d1, d2] }
  | _ => none }
def FnExactFindPinWrongFalsely : Prop := fnExactFindPinRow.holds Tryd.pinned (OpenSpec.ofChange fnExactFindPinWrong)

/-- 'laws.FnExactPutPin': WHATEVER THE INPUT: true; the input reads as it did. -/
def fnExactPutPinSpec : ChangeSpec := { name := "fnExactPutPin", fn := fun _ => fun
  | [d1, d2] => { results := [.lit (.bool true)], args := [d1, d2] }
  | _ => none }
def fnExactPutPinRow : OpenClaim := { program := "ytcnpocppgghejaadoor", sum := "3e28208b7bd5ba31b2d129c633810bd1e805fc018c30103cd3f788a799e33212", func := "loop.example/g00618/laws.FnExactPutPin", spec := "fnExactPutPin", inPlace := ["internal/abi.NoEscape", "internal/bytealg.MakeNoZero", "internal/bytealg.abigen_runtime_cmpstring"], unfollowed := true, recurses := true, named := ["unicode/utf8.first", "unicode/utf8.acceptRanges", "unicode.CaseRanges"], apart := false, laid := [("unicode/utf8.acceptRanges", laid_unicode_utf8_acceptRanges), ("unicode.CaseRanges", laid_unicode_CaseRanges), ("unicode/utf8.first", laid_unicode_utf8_first)] }
def FnExactPutPinSaid : Prop := fnExactPutPinRow.holds Tryd.pinned (OpenSpec.ofChange fnExactPutPinSpec)

/-- ITS FALSE NEIGHBOUR: 'it returns false'. Refute it at one input. -/
def fnExactPutPinWrong : ChangeSpec := { name := "fnExactPutPin", fn := fun _ => fun
  | [d1, d2] => { results := [.lit (.bool false)], args := [d1, d2] }
  | _ => none }
def FnExactPutPinWrongFalsely : Prop := fnExactPutPinRow.holds Tryd.pinned (OpenSpec.ofChange fnExactPutPinWrong)

/-- 'laws.FnExactIsLive': WHATEVER THE INPUT: true; the input reads as it did. -/
def fnExactIsLiveSpec : ChangeSpec := { name := "fnExactIsLive", fn := fun _ => fun
  | [d1, d2] => { results := [.lit (.bool true)], args := [d1, d2] }
  | _ => none }
def fnExactIsLiveRow : OpenClaim := { program := "ytcnpocppgghejaadoor", sum := "3e28208b7bd5ba31b2d129c633810bd1e805fc018c30103cd3f788a799e33212", func := "loop.example/g00618/laws.FnExactIsLive", spec := "fnExactIsLive", inPlace := ["internal/abi.NoEscape", "internal/bytealg.MakeNoZero"], unfollowed := true, recurses := true, named := ["unicode/utf8.first", "unicode/utf8.acceptRanges", "unicode.CaseRanges"], apart := false, laid := [("unicode/utf8.acceptRanges", laid_unicode_utf8_acceptRanges), ("unicode.CaseRanges", laid_unicode_CaseRanges), ("unicode/utf8.first", laid_unicode_utf8_first)] }
def FnExactIsLiveSaid : Prop := fnExactIsLiveRow.holds Tryd.pinned (OpenSpec.ofChange fnExactIsLiveSpec)

/-- ITS FALSE NEIGHBOUR: 'it returns false'. Refute it at one input. -/
def fnExactIsLiveWrong : ChangeSpec := { name := "fnExactIsLive", fn := fun _ => fun
  | [d1, d2] => { results := [.lit (.bool false)], args := [d1, d2] }
  | _ => none }
def FnExactIsLiveWrongFalsely : Prop := fnExactIsLiveRow.holds Tryd.pinned (OpenSpec.ofChange fnExactIsLiveWrong)

/-- 'laws.FnExactPackPin': WHATEVER THE INPUT: true; the input reads as it did. -/
def fnExactPackPinSpec : ChangeSpec := { name := "fnExactPackPin", fn := fun _ => fun
  | [d] => { results := [.lit (.bool true)], args := [d] }
  | _ => none }
def fnExactPackPinRow : OpenClaim := { program := "ytcnpocppgghejaadoor", sum := "3e28208b7bd5ba31b2d129c633810bd1e805fc018c30103cd3f788a799e33212", func := "loop.example/g00618/laws.FnExactPackPin", spec := "fnExactPackPin", inPlace := ["internal/abi.NoEscape", "internal/bytealg.MakeNoZero"], unfollowed := true, recurses := true, named := ["unicode/utf8.first", "unicode/utf8.acceptRanges", "unicode.CaseRanges"], apart := false, laid := [("unicode/utf8.acceptRanges", laid_unicode_utf8_acceptRanges), ("unicode.CaseRanges", laid_unicode_CaseRanges), ("unicode/utf8.first", laid_unicode_utf8_first)] }
def FnExactPackPinSaid : Prop := fnExactPackPinRow.holds Tryd.pinned (OpenSpec.ofChange fnExactPackPinSpec)

/-- ITS FALSE NEIGHBOUR: 'it returns false'. Refute it at one input. -/
def fnExactPackPinWrong : ChangeSpec := { name := "fnExactPackPin", fn := fun _ => fun
  | [d] => { results := [.lit (.bool false)], args := [d] }
  | _ => none }
def FnExactPackPinWrongFalsely : Prop := fnExactPackPinRow.holds Tryd.pinned (OpenSpec.ofChange fnExactPackPinWrong)

/-- 'laws.FnExactReadPin': WHATEVER THE INPUT: true; the input reads as it did. -/
def fnExactReadPinSpec : ChangeSpec := { name := "fnExactReadPin", fn := fun _ => fun
  | [d] => { results := [.lit (.bool true)], args := [d] }
  | _ => none }
def fnExactReadPinRow : OpenClaim := { program := "ytcnpocppgghejaadoor", sum := "3e28208b7bd5ba31b2d129c633810bd1e805fc018c30103cd3f788a799e33212", func := "loop.example/g00618/laws.FnExactReadPin", spec := "fnExactReadPin", inPlace := ["internal/abi.NoEscape", "internal/bytealg.MakeNoZero"], unfollowed := true, recurses := true, named := ["unicode/utf8.first", "unicode/utf8.acceptRanges", "unicode.CaseRanges"], apart := false, laid := [("unicode/utf8.acceptRanges", laid_unicode_utf8_acceptRanges), ("unicode.CaseRanges", laid_unicode_CaseRanges), ("unicode/utf8.first", laid_unicode_utf8_first)] }
def FnExactReadPinSaid : Prop := fnExactReadPinRow.holds Tryd.pinned (OpenSpec.ofChange fnExactReadPinSpec)

/-- ITS FALSE NEIGHBOUR: 'it returns false'. Refute it at one input. -/
def fnExactReadPinWrong : ChangeSpec := { name := "fnExactReadPin", fn := fun _ => fun
  | [d] => { results := [.lit (.bool false)], args := [d] }
  | _ => none }
def FnExactReadPinWrongFalsely : Prop := fnExactReadPinRow.holds Tryd.pinned (OpenSpec.ofChange fnExactReadPinWrong)

/- THE SECOND FORM. 'bulk': how many values and letters a reading holds, each counted each time it is reached (what is shared counts as often as it is met; a slice's spare places count too). A statement '..UptoSaid' is the law's where the arguments, and the package variables that the reading takes, are together of bulk at most 1048576: NARROWER than '..Said'. Prove '..Said' where nothing that the law and all that it calls make is longer than what came in: it says more and counts as full. Else prove '..UptoSaid'. A law counts once. -/
mutual
def uptoBulk {H : Type} : DataW H → Nat
  | .lit (.string bytes) => bytes.length + 1
  | .lit _ => 1
  | .nil => 1
  | .ptr d => uptoBulk d + 1
  | .slice elems spare => uptoBulkAll elems + uptoBulkAll spare + 1
  | .agg parts => uptoBulkAll parts + 1
  | .iface _ d => uptoBulk d + 1
  | .map entries => uptoBulkEntries entries + 1
  | .held _ => 1
def uptoBulkAll {H : Type} : List (DataW H) → Nat
  | [] => 0
  | d :: r => uptoBulk d + uptoBulkAll r
def uptoBulkEntries {H : Type} : List (Lit × DataW H) → Nat
  | [] => 0
  | x :: r => uptoBulkEntry x + uptoBulkEntries r
def uptoBulkEntry {H : Type} : Lit × DataW H → Nat
  | (.string bytes, d) => bytes.length + uptoBulk d + 1
  | (_, d) => uptoBulk d + 1
 end
def uptoSmall : (H : Type) → List (DataW H) → Bool := fun _ ds => decide (uptoBulkAll ds ≤ 1048576)
def OpenSpec.upto (s : _root_.Go.ChangeSpec) : _root_.Go.OpenSpec := { _root_.Go.OpenSpec.ofChange s with cond := some uptoSmall }

/-- 'laws.FnExactPinFault', WHERE WHAT IT READS IS OF BULK AT MOST 1048576: true; the input reads as it did. -/
def fnExactPinFaultUptoRow : OpenClaim := { program := "ytcnpocppgghejaadoor", sum := "3e28208b7bd5ba31b2d129c633810bd1e805fc018c30103cd3f788a799e33212", func := "loop.example/g00618/laws.FnExactPinFault", spec := "fnExactPinFault", inPlace := ["internal/abi.NoEscape", "internal/bytealg.MakeNoZero"], unfollowed := true, recurses := true, named := ["unicode/utf8.first", "unicode/utf8.acceptRanges", "unicode.CaseRanges"], apart := false, laid := [("unicode/utf8.acceptRanges", laid_unicode_utf8_acceptRanges), ("unicode.CaseRanges", laid_unicode_CaseRanges), ("unicode/utf8.first", laid_unicode_utf8_first)], narrowed := true }
def FnExactPinFaultUptoSaid : Prop := fnExactPinFaultUptoRow.holds Tryd.pinned (OpenSpec.upto fnExactPinFaultSpec)

/-- 'laws.FnExactPinsFault', WHERE WHAT IT READS IS OF BULK AT MOST 1048576: true; the input reads as it did. -/
def fnExactPinsFaultUptoRow : OpenClaim := { program := "ytcnpocppgghejaadoor", sum := "3e28208b7bd5ba31b2d129c633810bd1e805fc018c30103cd3f788a799e33212", func := "loop.example/g00618/laws.FnExactPinsFault", spec := "fnExactPinsFault", inPlace := ["internal/abi.NoEscape", "internal/bytealg.MakeNoZero"], unfollowed := true, recurses := true, named := ["unicode/utf8.first", "unicode/utf8.acceptRanges", "unicode.CaseRanges"], apart := false, laid := [("unicode/utf8.acceptRanges", laid_unicode_utf8_acceptRanges), ("unicode.CaseRanges", laid_unicode_CaseRanges), ("unicode/utf8.first", laid_unicode_utf8_first)], narrowed := true }
def FnExactPinsFaultUptoSaid : Prop := fnExactPinsFaultUptoRow.holds Tryd.pinned (OpenSpec.upto fnExactPinsFaultSpec)

/-- 'laws.FnExactFindPin', WHERE WHAT IT READS IS OF BULK AT MOST 1048576: true; the input reads as it did. -/
def fnExactFindPinUptoRow : OpenClaim := { program := "ytcnpocppgghejaadoor", sum := "3e28208b7bd5ba31b2d129c633810bd1e805fc018c30103cd3f788a799e33212", func := "loop.example/g00618/laws.FnExactFindPin", spec := "fnExactFindPin", inPlace := ["internal/abi.NoEscape", "internal/bytealg.MakeNoZero"], unfollowed := true, recurses := true, named := ["unicode/utf8.first", "unicode/utf8.acceptRanges", "unicode.CaseRanges"], apart := false, laid := [("unicode/utf8.acceptRanges", laid_unicode_utf8_acceptRanges), ("unicode.CaseRanges", laid_unicode_CaseRanges), ("unicode/utf8.first", laid_unicode_utf8_first)], narrowed := true }
def FnExactFindPinUptoSaid : Prop := fnExactFindPinUptoRow.holds Tryd.pinned (OpenSpec.upto fnExactFindPinSpec)

/-- 'laws.FnExactPutPin', WHERE WHAT IT READS IS OF BULK AT MOST 1048576: true; the input reads as it did. -/
def fnExactPutPinUptoRow : OpenClaim := { program := "ytcnpocppgghejaadoor", sum := "3e28208b7bd5ba31b2d129c633810bd1e805fc018c30103cd3f788a799e33212", func := "loop.example/g00618/laws.FnExactPutPin", spec := "fnExactPutPin", inPlace := ["internal/abi.NoEscape", "internal/bytealg.MakeNoZero", "internal/bytealg.abigen_runtime_cmpstring"], unfollowed := true, recurses := true, named := ["unicode/utf8.first", "unicode/utf8.acceptRanges", "unicode.CaseRanges"], apart := false, laid := [("unicode/utf8.acceptRanges", laid_unicode_utf8_acceptRanges), ("unicode.CaseRanges", laid_unicode_CaseRanges), ("unicode/utf8.first", laid_unicode_utf8_first)], narrowed := true }
def FnExactPutPinUptoSaid : Prop := fnExactPutPinUptoRow.holds Tryd.pinned (OpenSpec.upto fnExactPutPinSpec)

/-- 'laws.FnExactIsLive', WHERE WHAT IT READS IS OF BULK AT MOST 1048576: true; the input reads as it did. -/
def fnExactIsLiveUptoRow : OpenClaim := { program := "ytcnpocppgghejaadoor", sum := "3e28208b7bd5ba31b2d129c633810bd1e805fc018c30103cd3f788a799e33212", func := "loop.example/g00618/laws.FnExactIsLive", spec := "fnExactIsLive", inPlace := ["internal/abi.NoEscape", "internal/bytealg.MakeNoZero"], unfollowed := true, recurses := true, named := ["unicode/utf8.first", "unicode/utf8.acceptRanges", "unicode.CaseRanges"], apart := false, laid := [("unicode/utf8.acceptRanges", laid_unicode_utf8_acceptRanges), ("unicode.CaseRanges", laid_unicode_CaseRanges), ("unicode/utf8.first", laid_unicode_utf8_first)], narrowed := true }
def FnExactIsLiveUptoSaid : Prop := fnExactIsLiveUptoRow.holds Tryd.pinned (OpenSpec.upto fnExactIsLiveSpec)

/-- 'laws.FnExactPackPin', WHERE WHAT IT READS IS OF BULK AT MOST 1048576: true; the input reads as it did. -/
def fnExactPackPinUptoRow : OpenClaim := { program := "ytcnpocppgghejaadoor", sum := "3e28208b7bd5ba31b2d129c633810bd1e805fc018c30103cd3f788a799e33212", func := "loop.example/g00618/laws.FnExactPackPin", spec := "fnExactPackPin", inPlace := ["internal/abi.NoEscape", "internal/bytealg.MakeNoZero"], unfollowed := true, recurses := true, named := ["unicode/utf8.first", "unicode/utf8.acceptRanges", "unicode.CaseRanges"], apart := false, laid := [("unicode/utf8.acceptRanges", laid_unicode_utf8_acceptRanges), ("unicode.CaseRanges", laid_unicode_CaseRanges), ("unicode/utf8.first", laid_unicode_utf8_first)], narrowed := true }
def FnExactPackPinUptoSaid : Prop := fnExactPackPinUptoRow.holds Tryd.pinned (OpenSpec.upto fnExactPackPinSpec)

/-- 'laws.FnExactReadPin', WHERE WHAT IT READS IS OF BULK AT MOST 1048576: true; the input reads as it did. -/
def fnExactReadPinUptoRow : OpenClaim := { program := "ytcnpocppgghejaadoor", sum := "3e28208b7bd5ba31b2d129c633810bd1e805fc018c30103cd3f788a799e33212", func := "loop.example/g00618/laws.FnExactReadPin", spec := "fnExactReadPin", inPlace := ["internal/abi.NoEscape", "internal/bytealg.MakeNoZero"], unfollowed := true, recurses := true, named := ["unicode/utf8.first", "unicode/utf8.acceptRanges", "unicode.CaseRanges"], apart := false, laid := [("unicode/utf8.acceptRanges", laid_unicode_utf8_acceptRanges), ("unicode.CaseRanges", laid_unicode_CaseRanges), ("unicode/utf8.first", laid_unicode_utf8_first)], narrowed := true }
def FnExactReadPinUptoSaid : Prop := fnExactReadPinUptoRow.holds Tryd.pinned (OpenSpec.upto fnExactReadPinSpec)

end Rows
end Go.Proofs.YtcnpocppgghejaaDoor
