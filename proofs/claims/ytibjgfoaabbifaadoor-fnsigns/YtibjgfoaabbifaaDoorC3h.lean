/- Contracts of how signatures are laid into bytes, by the program and by its model. Conditions: as each theorem states. -/
import Derived.Test.YtibjgfoaabbifaaDoorC3e
import Derived.Test.YtibjgfoaabbifaaDoorLine
namespace Go.Proofs.YtibjgfoaabbifaaDoor
open Go.RowKit
set_option maxRecDepth 100000
set_option linter.unusedVariables false

end Go.Proofs.YtibjgfoaabbifaaDoor
