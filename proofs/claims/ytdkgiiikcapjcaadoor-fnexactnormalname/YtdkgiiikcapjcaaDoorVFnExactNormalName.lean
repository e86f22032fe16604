/- The function NormalName answers, at every argument, as its model does. The walk: the law's Go text answers true and turns nothing that was there. Conditions: as the theorem states. -/
import Derived.Test.YtdkgiiikcapjcaaDoorL5
import Derived.WalkKit
import Derived.Below
namespace Go.Proofs.YtdkgiiikcapjcaaDoor.fnExactNormalName
open Go.RowKit
set_option linter.unusedVariables false

set_option maxRecDepth 100000 in
theorem walk (a0 : ByteArray) (w : World) (w0 : a0.size ≤ maxLen) :
    Calls Tryd.prog 4 #[.string a0] w fun e w' => e = .returned (.bool true) ∧ Below w.heap.size w w' := by
  have hm := w0
  unfold maxLen at hm
  by_cases hbig : 1048576 < a0.size
  · have hb' : (1048576 : Int) < a0.size := by omega
    go_enter Tryd.func4, Tryd.ntmps4
    go_wp2_with fail
    go_ret
    exact ⟨rfl, Below.refl _ _⟩
  have hb' : (a0.size : Int) ≤ 1048576 := by omega
  have S1 := fun w => specNormalName_any a0 w w0
  have S2 := fun w => implNormalName_any a0 w w0
  generalize M.nameF a0.data.toList = cd at *
  generalize M.bs (M.nrmT a0.data.toList) = T at *
  go_enter Tryd.func4, Tryd.ntmps4
  go_wp2_with fail
  refine (S1 _).mono ?_
  rintro r u1 ⟨rfl, b1⟩
  have A1 := At.new u1 [.int .i64 cd, .string T] 26
  have B1 := bal b1 (.cells #[.int .i64 cd, .string T] 26)
  go_wp2_with fail
  generalize hW1 : u1.alloc (.cells #[.int .i64 cd, .string T] 26) = W1 at *
  refine (S2 _).mono ?_
  rintro r u2 ⟨rfl, b2⟩
  have A2 := (A1.on b2).alloc (.cells #[.int .i64 cd, .string T] 26)
  have A3 := At.new u2 [.int .i64 cd, .string T] 26
  have B2 := bal (btr B1 b2) (.cells #[.int .i64 cd, .string T] 26)
  have p0 := A2.cell 0 _ rfl
  have p1 := A2.cell 1 _ rfl
  have q0 := A3.cell 0 _ rfl
  have q1 := A3.cell 1 _ rfl
  clear A1 A2 A3 b1 b2 B1
  go_wp2_with fail
  refine (eqText_any cd T _).mono ?_
  rintro r u3 ⟨rfl, b3⟩
  have B3 := btr B2 b3
  go_wp2_with fail
  go_ret
  exact ⟨rfl, B3⟩

end Go.Proofs.YtdkgiiikcapjcaaDoor.fnExactNormalName
