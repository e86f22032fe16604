/- The function NameFault answers, at every argument, as its model does. The walk: the law's Go text answers true and turns nothing that was there. Conditions: as the theorem states. -/
import Derived.Test.YtdkgiiikcapjcaaC5c
import Derived.WalkKit
import Derived.Below
namespace Go.Proofs.Ytdkgiiikcapjcaa.fnExactNameFault
open Go.RowKit
set_option linter.unusedVariables false

theorem walk (a0 : ByteArray) (w : World) (w0 : a0.size ≤ maxLen) :
    Calls Try.prog 3 #[.string a0] w fun e w' => e = .returned (.bool true) ∧ Below w.heap.size w w' := by
  have hm := w0
  unfold maxLen at hm
  by_cases hbig : 1048576 < a0.size
  · have hb' : (1048576 : Int) < a0.size := by omega
    go_enter Try.func3, Try.ntmps3
    go_wp2_with fail
    go_ret
    exact ⟨rfl, Below.refl _ _⟩
  have hb' : (a0.size : Int) ≤ 1048576 := by omega
  have S1 := fun w => specNameFault_any a0 w w0
  have S2 := fun w => implNameFault_any a0 w w0
  generalize M.nameF a0.data.toList = cd at *
  go_enter Try.func3, Try.ntmps3
  go_wp2_with fail
  refine (S1 _).mono ?_
  rintro r u1 ⟨rfl, b1⟩
  go_wp2_with fail
  refine (S2 _).mono ?_
  rintro r u2 ⟨rfl, rfl⟩
  go_wp2_with fail
  go_ret
  exact ⟨rfl, b1⟩

end Go.Proofs.Ytdkgiiikcapjcaa.fnExactNameFault
