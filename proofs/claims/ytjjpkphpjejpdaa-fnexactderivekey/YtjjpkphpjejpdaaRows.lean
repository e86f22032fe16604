/-
  No cell of these rows narrows 'for every input' (looked for: loops, veiled, ifaces, maps, wideKeys, modest, calm, conditions, laid).
  DERIVED. THE GIVEN ROWS OF THIS SEAT. 4 by the template 'for every input the law returns true; each argument reads behind the call as it read before'; 0 by the template 'total and deterministic' (their statements: YtjjpkphpjejpdaaTotals.lean).
  GIVEN WITH THE SEED: the statements are not yours to turn. If you find one false, say at which input.
  Laid BY PROGRAM, IN A SANDBOX (cutbox-rows.mjs): the forced cells as the released guide's own fill.sh prints them over the translation 88db50e0e18e3b45… (all of the seat's roots in one cut). By AI agents, Wed Nov 11 2026. No macro, syntax, notation, axiom, sorry.
-/
import Derived.Test.YtjjpkphpjejpdaaChecked
import GoSem.Claim
import GoSem.ClaimJoined
import GoSem.ClaimMapViews
import Derived.JoinedTies
import Derived.KernelRfl
namespace Go.Proofs.Ytjjpkphpjejpdaa
/- THE CELL 'sum', in the pinned program and in every row, IS THE sha256 OF THE DUMP (.gsa) THAT YtjjpkphpjejpdaaProg.lean LOADS. Nothing in Lean hashes anything: it is a label: what it is worth is what the hold of that sum in a sandbox is worth. -/
noncomputable def Try.pinned : Pinned := { name := "ytjjpkphpjejpdaa", sum := "88db50e0e18e3b4576dd554b38e4bbccddbdd9ccf2c96d837a42ed3314309d17", checked := Try.checked }
namespace Rows
def none {H : Type} : Left H := { results := [], args := [] }

/-- 'laws.FnExactSumOf': WHATEVER THE INPUT: true; the input reads as it did. -/
def fnExactSumOfSpec : ChangeSpec := { name := "fnExactSumOf", fn := fun _ => fun
  | [d] => { results := [.lit (.bool true)], args := [d] }
  | _ => none }
def fnExactSumOfRow : OpenClaim := { program := "ytjjpkphpjejpdaa", sum := "88db50e0e18e3b4576dd554b38e4bbccddbdd9ccf2c96d837a42ed3314309d17", func := "loop.example/g00618/laws.FnExactSumOf", spec := "fnExactSumOf", apart := false }
def FnExactSumOfSaid : Prop := fnExactSumOfRow.holds Try.pinned (OpenSpec.ofChange fnExactSumOfSpec)

/-- ITS FALSE NEIGHBOUR: 'it returns false'. Refute it at one input. -/
def fnExactSumOfWrong : ChangeSpec := { name := "fnExactSumOf", fn := fun _ => fun
  | [d] => { results := [.lit (.bool false)], args := [d] }
  | _ => none }
def FnExactSumOfWrongFalsely : Prop := fnExactSumOfRow.holds Try.pinned (OpenSpec.ofChange fnExactSumOfWrong)

/-- 'laws.FnExactTagSum': WHATEVER THE INPUT: true; the input reads as it did. -/
def fnExactTagSumSpec : ChangeSpec := { name := "fnExactTagSum", fn := fun _ => fun
  | [d1, d2] => { results := [.lit (.bool true)], args := [d1, d2] }
  | _ => none }
def fnExactTagSumRow : OpenClaim := { program := "ytjjpkphpjejpdaa", sum := "88db50e0e18e3b4576dd554b38e4bbccddbdd9ccf2c96d837a42ed3314309d17", func := "loop.example/g00618/laws.FnExactTagSum", spec := "fnExactTagSum", apart := false }
def FnExactTagSumSaid : Prop := fnExactTagSumRow.holds Try.pinned (OpenSpec.ofChange fnExactTagSumSpec)

/-- ITS FALSE NEIGHBOUR: 'it returns false'. Refute it at one input. -/
def fnExactTagSumWrong : ChangeSpec := { name := "fnExactTagSum", fn := fun _ => fun
  | [d1, d2] => { results := [.lit (.bool false)], args := [d1, d2] }
  | _ => none }
def FnExactTagSumWrongFalsely : Prop := fnExactTagSumRow.holds Try.pinned (OpenSpec.ofChange fnExactTagSumWrong)

/-- 'laws.FnExactDeriveKey': WHATEVER THE INPUT: true; the input reads as it did. -/
def fnExactDeriveKeySpec : ChangeSpec := { name := "fnExactDeriveKey", fn := fun _ => fun
  | [d1, d2] => { results := [.lit (.bool true)], args := [d1, d2] }
  | _ => none }
def fnExactDeriveKeyRow : OpenClaim := { program := "ytjjpkphpjejpdaa", sum := "88db50e0e18e3b4576dd554b38e4bbccddbdd9ccf2c96d837a42ed3314309d17", func := "loop.example/g00618/laws.FnExactDeriveKey", spec := "fnExactDeriveKey", apart := false }
def FnExactDeriveKeySaid : Prop := fnExactDeriveKeyRow.holds Try.pinned (OpenSpec.ofChange fnExactDeriveKeySpec)

/-- ITS FALSE NEIGHBOUR: 'it returns false'. Refute it at one input. -/
def fnExactDeriveKeyWrong : ChangeSpec := { name := "fnExactDeriveKey", fn := fun _ => fun
  | [d1, d2] => { results := [.lit (.bool false)], args := [d1, d2] }
  | _ => none }
def FnExactDeriveKeyWrongFalsely : Prop := fnExactDeriveKeyRow.holds Try.pinned (OpenSpec.ofChange fnExactDeriveKeyWrong)

/-- 'laws.FnExactSameSum': WHATEVER THE INPUT: true; the input reads as it did. -/
def fnExactSameSumSpec : ChangeSpec := { name := "fnExactSameSum", fn := fun _ => fun
  | [d1, d2] => { results := [.lit (.bool true)], args := [d1, d2] }
  | _ => none }
def fnExactSameSumRow : OpenClaim := { program := "ytjjpkphpjejpdaa", sum := "88db50e0e18e3b4576dd554b38e4bbccddbdd9ccf2c96d837a42ed3314309d17", func := "loop.example/g00618/laws.FnExactSameSum", spec := "fnExactSameSum", apart := false }
def FnExactSameSumSaid : Prop := fnExactSameSumRow.holds Try.pinned (OpenSpec.ofChange fnExactSameSumSpec)

/-- ITS FALSE NEIGHBOUR: 'it returns false'. Refute it at one input. -/
def fnExactSameSumWrong : ChangeSpec := { name := "fnExactSameSum", fn := fun _ => fun
  | [d1, d2] => { results := [.lit (.bool false)], args := [d1, d2] }
  | _ => none }
def FnExactSameSumWrongFalsely : Prop := fnExactSameSumRow.holds Try.pinned (OpenSpec.ofChange fnExactSameSumWrong)

/- THE SECOND FORM. 'bulk': how many values and letters a reading holds, each counted each time it is reached (what is shared counts as often as it is met; a slice's spare places count too). A statement '..UptoSaid' is the law's where the arguments, and the package variables that the reading takes, are together of bulk at most 1048576: NARROWER than '..Said'. Prove '..Said' where nothing that the law and all that it calls make is longer than what came in: it says more and counts as full. Else prove '..UptoSaid'. A law counts once. -/
mutual
def uptoBulk {H : Type} : DataW H → Nat
  | .lit (.string bytes) => bytes.length + 1
  | .lit _ => 1
  | .nil => 1
  | .ptr d => uptoBulk d + 1
  | .slice elems spare => uptoBulkAll elems + uptoBulkAll spare + 1
  | .agg parts => uptoBulkAll parts + 1
  | .iface _ d => uptoBulk d + 1
  | .map entries => uptoBulkEntries entries + 1
  | .held _ => 1
def uptoBulkAll {H : Type} : List (DataW H) → Nat
  | [] => 0
  | d :: r => uptoBulk d + uptoBulkAll r
def uptoBulkEntries {H : Type} : List (Lit × DataW H) → Nat
  | [] => 0
  | x :: r => uptoBulkEntry x + uptoBulkEntries r
def uptoBulkEntry {H : Type} : Lit × DataW H → Nat
  | (.string bytes, d) => bytes.length + uptoBulk d + 1
  | (_, d) => uptoBulk d + 1
 end
def uptoSmall : (H : Type) → List (DataW H) → Bool := fun _ ds => decide (uptoBulkAll ds ≤ 1048576)
def OpenSpec.upto (s : _root_.Go.ChangeSpec) : _root_.Go.OpenSpec := { _root_.Go.OpenSpec.ofChange s with cond := some uptoSmall }

/-- 'laws.FnExactSumOf', WHERE WHAT IT READS IS OF BULK AT MOST 1048576: true; the input reads as it did. -/
def fnExactSumOfUptoRow : OpenClaim := { program := "ytjjpkphpjejpdaa", sum := "88db50e0e18e3b4576dd554b38e4bbccddbdd9ccf2c96d837a42ed3314309d17", func := "loop.example/g00618/laws.FnExactSumOf", spec := "fnExactSumOf", apart := false, narrowed := true }
def FnExactSumOfUptoSaid : Prop := fnExactSumOfUptoRow.holds Try.pinned (OpenSpec.upto fnExactSumOfSpec)

/-- 'laws.FnExactTagSum', WHERE WHAT IT READS IS OF BULK AT MOST 1048576: true; the input reads as it did. -/
def fnExactTagSumUptoRow : OpenClaim := { program := "ytjjpkphpjejpdaa", sum := "88db50e0e18e3b4576dd554b38e4bbccddbdd9ccf2c96d837a42ed3314309d17", func := "loop.example/g00618/laws.FnExactTagSum", spec := "fnExactTagSum", apart := false, narrowed := true }
def FnExactTagSumUptoSaid : Prop := fnExactTagSumUptoRow.holds Try.pinned (OpenSpec.upto fnExactTagSumSpec)

/-- 'laws.FnExactDeriveKey', WHERE WHAT IT READS IS OF BULK AT MOST 1048576: true; the input reads as it did. -/
def fnExactDeriveKeyUptoRow : OpenClaim := { program := "ytjjpkphpjejpdaa", sum := "88db50e0e18e3b4576dd554b38e4bbccddbdd9ccf2c96d837a42ed3314309d17", func := "loop.example/g00618/laws.FnExactDeriveKey", spec := "fnExactDeriveKey", apart := false, narrowed := true }
def FnExactDeriveKeyUptoSaid : Prop := fnExactDeriveKeyUptoRow.holds Try.pinned (OpenSpec.upto fnExactDeriveKeySpec)

/-- 'laws.FnExactSameSum', WHERE WHAT IT READS IS OF BULK AT MOST 1048576: true; the input reads as it did. -/
def fnExactSameSumUptoRow : OpenClaim := { program := "ytjjpkphpjejpdaa", sum := "88db50e0e18e3b4576dd554b38e4bbccddbdd9ccf2c96d837a42ed3314309d17", func := "loop.example/g00618/laws.FnExactSameSum", spec := "fnExactSameSum", apart := false, narrowed := true }
def FnExactSameSumUptoSaid : Prop := fnExactSameSumUptoRow.holds Try.pinned (OpenSpec.upto fnExactSameSumSpec)

end Rows
end Go.Proofs.Ytjjpkphpjejpdaa
