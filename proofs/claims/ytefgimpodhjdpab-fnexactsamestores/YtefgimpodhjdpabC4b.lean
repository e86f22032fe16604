/- Contracts of copies and comparisons of bytes and records, by the program and by its model. Conditions: as each theorem states. -/
import Derived.Test.YtefgimpodhjdpabC4a
namespace Go.Proofs.Ytefgimpodhjdpab
open Go.RowKit
set_option maxRecDepth 100000
set_option linter.unusedVariables false

theorem u8_size : (Try.prog.info? 5).map (·.size) = some 1 := by kernel_rfl
theorem bytesEqual_any {B : Nat} {a b : Option Addr} {n1 n2 c1 c2 : Nat} {xs ys : List Int} {w : World} (hR : Row .u8 w B a n1 c1 xs) (hQ : Row .u8 w B b n2 c2 ys) :
    Calls Try.prog 16 #[.slice a n1 c1, .slice b n2 c2] w fun r w' => r = .returned (.bool (decide (xs = ys))) ∧ w = w' := by
  have k1 := conv_row hR
  have k2 := conv_row hQ
  have k3 := strOf_beq hR.bytes hQ.bytes
  generalize decide (xs = ys) = b at *
  clear hR hQ
  generalize strOf xs = S at *
  generalize strOf ys = T at *
  go_enter Try.func16, Try.ntmps16
  go_wp2_with fail
  go_ret
  simp
end Go.Proofs.Ytefgimpodhjdpab
