/- Contracts of which reasons are accepted, and of the words for them, by the program and by its model. Conditions: as each theorem states. -/
import Derived.Test.YtcolecidbalmhaaMath10
import Derived.Test.YtcolecidbalmhaaC1a
namespace Go.Proofs.Ytcolecidbalmhaa
open Go.RowKit
set_option maxRecDepth 100000
set_option linter.unusedVariables false

theorem implIsAccept_any (r : Int) (w : World) : Calls Try.prog 5 #[.int .i64 r] w fun e w' => e = .returned (.bool (acceptB r)) ∧ w = w' := by
  by_cases h1 : r = 1
  · subst h1
    rw [show acceptB 1 = true from rfl]
    go_enter Try.func5, Try.ntmps5
    go_wp2_with fail
    go_ret
    simp
  by_cases h3 : r = 3
  · subst h3
    rw [show acceptB 3 = true from rfl]
    go_enter Try.func5, Try.ntmps5
    go_wp2_with fail
    go_ret
    simp
  by_cases h4 : r = 4
  · subst h4
    rw [show acceptB 4 = true from rfl]
    go_enter Try.func5, Try.ntmps5
    go_wp2_with fail
    go_ret
    simp
  by_cases h7 : r = 7
  · subst h7
    rw [show acceptB 7 = true from rfl]
    go_enter Try.func5, Try.ntmps5
    go_wp2_with fail
    go_ret
    simp
  · have e : acceptB r = false := by simp [acceptB, h1, h3, h4, h7]
    rw [e]
    have q1 : (r == 1) = false := by simpa using h1
    have q3 : (r == 3) = false := by simpa using h3
    have q4 : (r == 4) = false := by simpa using h4
    have q7 : (r == 7) = false := by simpa using h7
    go_enter Try.func5, Try.ntmps5
    go_wp2_with fail
    go_ret
    simp
theorem l10Accept_any (r : Int) (w : World) : Calls Try.prog 6 #[.int .i64 r] w fun e w' => e = .returned (.bool (acceptB r)) ∧ w = w' := by
  by_cases h1 : r = 1
  · subst h1
    rw [show acceptB 1 = true from rfl]
    go_enter Try.func6, Try.ntmps6
    go_wp2_with fail
    go_ret
    simp
  by_cases h3 : r = 3
  · subst h3
    rw [show acceptB 3 = true from rfl]
    go_enter Try.func6, Try.ntmps6
    go_wp2_with fail
    go_ret
    simp
  by_cases h4 : r = 4
  · subst h4
    rw [show acceptB 4 = true from rfl]
    go_enter Try.func6, Try.ntmps6
    go_wp2_with fail
    go_ret
    simp
  by_cases h7 : r = 7
  · subst h7
    rw [show acceptB 7 = true from rfl]
    go_enter Try.func6, Try.ntmps6
    go_wp2_with fail
    go_ret
    simp
  · have e : acceptB r = false := by simp [acceptB, h1, h3, h4, h7]
    rw [e]
    have q1 : (r == 1) = false := by simpa using h1
    have q3 : (r == 3) = false := by simpa using h3
    have q4 : (r == 4) = false := by simpa using h4
    have q7 : (r == 7) = false := by simpa using h7
    go_enter Try.func6, Try.ntmps6
    go_wp2_with fail
    go_ret
    simp
theorem specIsAccept_any (r : Int) (w : World) : Calls Try.prog 4 #[.int .i64 r] w fun e w' => e = .returned (.bool (acceptB r)) ∧ w = w' := by
  have L := fun w => l10Accept_any r w
  generalize acceptB r = b at *
  go_enter Try.func4, Try.ntmps4
  go_wp2_with fail
  refine (L _).mono ?_
  rintro r w' ⟨rfl, rfl⟩
  go_wp2_with fail
  go_ret
  simp
end Go.Proofs.Ytcolecidbalmhaa
