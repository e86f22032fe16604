/- Contracts of how signatures are laid into bytes, by the program and by its model. Conditions: as each theorem states. -/
import Derived.Test.YtjlhldndomaknaaDoorC3e
import Derived.Test.YtjlhldndomaknaaDoorLine
namespace Go.Proofs.YtjlhldndomaknaaDoor
open Go.RowKit
set_option maxRecDepth 100000
set_option linter.unusedVariables false

end Go.Proofs.YtjlhldndomaknaaDoor
