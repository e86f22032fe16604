/- Contracts of chapter 2's small functions: sums of bytes, labels, tagged sums. Conditions: as each theorem states. -/
import Derived.Test.YtcolecidbalmhaaDoorOwn
import Derived.Test.YtcolecidbalmhaaDoorMath2
import Derived.Test.YtcolecidbalmhaaDoorC1a
import Derived.Lib.SlBytesConst
namespace Go.Proofs.YtcolecidbalmhaaDoor
open Go.RowKit

theorem ret_int {k : IntKind} {a b : Int} (h : a = b) : Ending.returned (.int k a) = .returned (.int k b) := by rw [h]
theorem ret_bool {a b : Bool} (h : a = b) : Ending.returned (.bool a) = .returned (.bool b) := by rw [h]

theorem l2Is_any (v : Int) (w : World) :
    Calls Tryd.prog 68 #[.int .i64 v] w fun e w' => e = .returned (.bool (M.sumB v)) ∧ w = w' := by
  go_enter Tryd.func68, Tryd.ntmps68
  go_wp2_with fail
  refine (l1In_any _ _ _ _).mono ?_
  rintro r w' ⟨rfl, rfl⟩
  go_wp2_with fail
  go_ret
  exact ⟨rfl, rfl⟩

theorem isSum_any (v : Int) (w : World) :
    Calls Tryd.prog 60 #[.int .i64 v] w fun e w' => e = .returned (.bool (M.sumB v)) ∧ w = w' := by
  by_cases h1 : 0 ≤ v
  · by_cases h2 : v ≤ 65520
    · have e : M.sumB v = true := by simp [M.sumB, h1, h2]
      rw [e]; clear e
      go_enter Tryd.func60, Tryd.ntmps60
      go_wp2_with fail
      go_ret
      simp
    · have e : M.sumB v = false := by simp [M.sumB, h2]
      rw [e]; clear e
      go_enter Tryd.func60, Tryd.ntmps60
      go_wp2_with fail
      go_ret
      simp
  · have e : M.sumB v = false := by simp [M.sumB, h1]
    rw [e]; clear e
    go_enter Tryd.func60, Tryd.ntmps60
    go_wp2_with fail
    go_ret
    simp

end Go.Proofs.YtcolecidbalmhaaDoor
