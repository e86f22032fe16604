/- Contracts of chapter 2's small functions: sums of bytes, labels, tagged sums. Conditions: as each theorem states. -/
import Derived.Test.YtefgimpodhjdpabOwn
import Derived.Test.YtefgimpodhjdpabMath2
import Derived.Test.YtefgimpodhjdpabC1a
import Derived.Lib.SlBytesConst
namespace Go.Proofs.Ytefgimpodhjdpab
open Go.RowKit

theorem ret_int {k : IntKind} {a b : Int} (h : a = b) : Ending.returned (.int k a) = .returned (.int k b) := by rw [h]
theorem ret_bool {a b : Bool} (h : a = b) : Ending.returned (.bool a) = .returned (.bool b) := by rw [h]

end Go.Proofs.Ytefgimpodhjdpab
