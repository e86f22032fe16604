/- Contracts of how signatures are read out of bytes, by the model. Conditions: as each theorem states. -/
import Derived.Test.YtjlhldndomaknaaDoorC3f
namespace Go.Proofs.YtjlhldndomaknaaDoor
open Go.RowKit
set_option maxRecDepth 100000
set_option linter.unusedVariables false

theorem sigF_eq (p q : Int) : (M.sigF p q == 0) = M.sigB p q := by
  unfold M.sigF
  cases M.sigB p q <;> rfl
end Go.Proofs.YtjlhldndomaknaaDoor
