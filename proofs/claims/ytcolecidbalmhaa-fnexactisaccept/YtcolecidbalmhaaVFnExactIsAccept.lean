/- The function IsAccept answers, at every argument, as its model does. The walk: the law's Go text answers true and turns nothing that was there. Conditions: as the theorem states. -/
import Derived.Test.YtcolecidbalmhaaC10c
import Derived.WalkKit
import Derived.Below
namespace Go.Proofs.Ytcolecidbalmhaa.fnExactIsAccept
open Go.RowKit
set_option linter.unusedVariables false

set_option maxRecDepth 100000 in
theorem walk (a0 : Int) (w : World) (w0 : (Lit.int .i64 a0).wf = true) :
    Calls Try.prog 3 #[.int .i64 a0] w fun e w' => e = .returned (.bool true) ∧ Below w.heap.size w w' := by
  have S := fun w => specIsAccept_any a0 w
  have I := fun w => implIsAccept_any a0 w
  generalize acceptB a0 = c at *
  cases c
  all_goals
    go_enter Try.func3, Try.ntmps3
    go_wp2_with fail
    refine (S _).mono ?_
    rintro r w' ⟨rfl, rfl⟩
    go_wp2_with fail
    refine (I _).mono ?_
    rintro r w' ⟨rfl, rfl⟩
    go_wp2_with fail
    go_ret
    exact ⟨rfl, Below.refl _ _⟩

end Go.Proofs.Ytcolecidbalmhaa.fnExactIsAccept
