/- The function SameSum answers, at every argument, as its model does. The walk: the law's Go text answers true and turns nothing that was there. Conditions: as the theorem states. -/
import Derived.Test.YtjjpkphpjejpdaaC2d
import Derived.WalkKit
import Derived.Below
namespace Go.Proofs.Ytjjpkphpjejpdaa.fnExactSameSum
open Go.RowKit
set_option linter.unusedVariables false

theorem walk (a0 : Int) (a1 : Int) (w : World) (w0 : (Lit.int .i64 a0).wf = true) (w1 : (Lit.int .i64 a1).wf = true) :
    Calls Try.prog 6 #[.int .i64 a0, .int .i64 a1] w fun e w' => e = .returned (.bool true) ∧ Below w.heap.size w w' := by
  cases hS : sameS a0 a1
  all_goals
    go_enter Try.func6, Try.ntmps6
    go_wp2_with fail
    refine (specSameSum_any _ _ _).mono ?_
    rintro r w' ⟨rfl, rfl⟩
    go_wp2_with fail
    refine (implSameSum_any _ _ _).mono ?_
    rintro r w' ⟨rfl, rfl⟩
    go_wp2_with fail
    go_ret
    exact ⟨rfl, Below.refl _ _⟩

end Go.Proofs.Ytjjpkphpjejpdaa.fnExactSameSum
