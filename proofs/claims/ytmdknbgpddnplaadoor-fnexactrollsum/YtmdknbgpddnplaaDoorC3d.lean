/- Contracts of the exported functions of chapter 3 and of their model's: nonces, signatures and how they are checked. Conditions: as each theorem states. -/
import Derived.Test.YtmdknbgpddnplaaDoorC3c
namespace Go.Proofs.YtmdknbgpddnplaaDoor
open Go.RowKit
set_option maxRecDepth 100000

theorem signer_split {s t : Int} (h : (inB s 1 1438 && M.sumB t) = true) : inB s 1 1438 = true ∧ M.sumB t = true := by simpa using h

end Go.Proofs.YtmdknbgpddnplaaDoor
