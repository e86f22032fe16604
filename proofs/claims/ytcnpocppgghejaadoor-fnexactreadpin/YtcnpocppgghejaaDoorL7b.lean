/- Contracts of what the laws do with results that hold a pin. Conditions: as each theorem states. -/
import Derived.Test.YtcnpocppgghejaaDoorC7e
import Derived.Test.YtcnpocppgghejaaDoorL7
namespace Go.Proofs.YtcnpocppgghejaaDoor
open Go.RowKit
set_option maxRecDepth 100000
set_option linter.unusedVariables false

theorem eqPinResult_any (c : Int) (p : PinD) (w : World) : Calls Tryd.prog 21 #[R6 c p, R6 c p] w fun e w' => e = .returned (.bool true) ∧ Below w.heap.size w w' := by
  have b0 := bal (bal (Below.refl _ w) (.cells #[.int .i64 c, .string p.n, .int .i64 p.a, .int .i64 p.b, .int .i64 p.e, .int .i64 p.u] 37)) (.cells #[.int .i64 c, .string p.n, .int .i64 p.a, .int .i64 p.b, .int .i64 p.e, .int .i64 p.u] 37)
  go_enter Tryd.func21, Tryd.ntmps21
  go_wp2_with fail
  refine (eqPin_any p _).mono ?_
  rintro r u1 ⟨rfl, b1⟩
  have hb := btr b0 b1
  go_wp2_with fail
  go_ret
  exact ⟨rfl, hb⟩
end Go.Proofs.YtcnpocppgghejaaDoor
