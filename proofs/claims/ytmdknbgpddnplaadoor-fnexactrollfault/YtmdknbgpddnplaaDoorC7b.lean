/- Contracts of whether a pin is live, by the program and by its model. Conditions: as each theorem states. -/
import Derived.Test.YtmdknbgpddnplaaDoorC7a
namespace Go.Proofs.YtmdknbgpddnplaaDoor
open Go.RowKit
set_option maxRecDepth 100000
set_option linter.unusedVariables false

def liveB (p : PinD) (t : Int) : Bool := decide (p.f = 0) && timB t && decide (t ≤ p.u)
end Go.Proofs.YtmdknbgpddnplaaDoor
