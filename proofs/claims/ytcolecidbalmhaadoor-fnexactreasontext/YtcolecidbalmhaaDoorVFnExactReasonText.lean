/- The function ReasonText answers, at every argument, as its model does. The walk: the law's Go text answers true and turns nothing that was there. Conditions: as the theorem states. -/
import Derived.Test.YtcolecidbalmhaaDoorC10d
import Derived.Test.YtcolecidbalmhaaDoorL5
import Derived.WalkKit
import Derived.Below
namespace Go.Proofs.YtcolecidbalmhaaDoor.fnExactReasonText
open Go.RowKit
set_option linter.unusedVariables false

set_option maxRecDepth 100000 in
theorem walk (a0 : Int) (w : World) (w0 : (Lit.int .i64 a0).wf = true) (txt : Texts w) :
    Calls Tryd.prog 5 #[.int .i64 a0] w fun e w' => e = .returned (.bool true) ∧ Below w.heap.size w w' := by
  have S := fun w => specReasonText_any a0 w
  have I := fun w tx => implReasonText_any a0 w tx
  generalize textC a0 = c at *
  generalize textW a0 = t at *
  go_enter Tryd.func5, Tryd.ntmps5
  go_wp2_with fail
  refine (S _).mono ?_
  rintro r u1 ⟨rfl, b1⟩
  have b2 := bal b1 (.cells #[.int .i64 c, .string t] 46)
  have A2 := At.new u1 [.int .i64 c, .string t] 46
  go_wp2_with fail
  refine (I _ (txt.on b2)).mono ?_
  rintro r u3 ⟨rfl, b3⟩
  have A3 := A2.on b3
  have lt3 := A3.lt (by simp)
  have A4 := A3.alloc (.cells #[.int .i64 c, .string t] 46)
  have b4 := bal (btr b2 b3) (.cells #[.int .i64 c, .string t] 46)
  have q0 := A3.cell 0 _ rfl
  have q1 := A3.cell 1 _ rfl
  clear A2 A3 A4 b1 b2 b3 S I
  go_wp2_with fail
  refine (eqText_any c t _).mono ?_
  rintro r u5 ⟨rfl, b5⟩
  have hb := btr b4 b5
  go_wp2_with fail
  go_ret
  exact ⟨rfl, hb⟩

end Go.Proofs.YtcolecidbalmhaaDoor.fnExactReasonText
