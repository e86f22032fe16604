/- The constants of the program are those of the document. The walk: the law's Go text answers true and turns nothing that was there. Conditions: as the theorem states. -/
import Derived.Test.YtbjenjmnjlhoeaaC1a
import Derived.WalkKit
import Derived.Below
namespace Go.Proofs.Ytbjenjmnjlhoeaa.fnExactConstants
open Go.RowKit
set_option linter.unusedVariables false

theorem walk  (w : World)  :
    Calls Try.prog 6 #[] w fun e w' => e = .returned (.bool true) ∧ Below w.heap.size w w' := by
  go_enter Try.func6, Try.ntmps6
  go_wp2_with fail
  go_ret
  exact ⟨rfl, Below.refl _ _⟩

end Go.Proofs.Ytbjenjmnjlhoeaa.fnExactConstants
