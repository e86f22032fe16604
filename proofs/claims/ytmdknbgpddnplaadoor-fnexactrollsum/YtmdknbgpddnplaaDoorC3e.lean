/- Contracts of signatures and of how they are checked, by the program and by its model. Conditions: as each theorem states. -/
import Derived.Test.YtmdknbgpddnplaaDoorC3d
namespace Go.Proofs.YtmdknbgpddnplaaDoor
open Go.RowKit
set_option maxRecDepth 100000

theorem checkB_yes {u t p q : Int} (hu : pubB u = true) (ht : M.sumB t = true) (hg : M.sigB p q = true) : M.checkB u t p q = (M.pw 4 q.toNat 2879 == p * M.pw u (M.chalN u p t).toNat 2879 % 2879) := by
  simp only [M.checkB, hu, ht, hg, Bool.and_self, Bool.true_and]

end Go.Proofs.YtmdknbgpddnplaaDoor
