/- The function FinishOf answers, at every argument, as its model does. The walk: the law's Go text answers true and turns nothing that was there. Conditions: as the theorem states. -/
import Derived.Test.YtlodhleihnlchaaDoorC11b
import Derived.Test.YtlodhleihnlchaaDoorC11c
import Derived.WalkKit
import Derived.Below
namespace Go.Proofs.YtlodhleihnlchaaDoor.fnExactFinishOf
open Go.RowKit
set_option linter.unusedVariables false

theorem walk (a0 : Int) (a1 : Int) (w : World) (w0 : (Lit.int .i64 a0).wf = true) (w1 : (Lit.int .i64 a1).wf = true) (lab : Labels w) :
    Calls Tryd.prog 6 #[.int .i64 a0, .int .i64 a1] w fun e w' => e = .returned (.bool true) ∧ Below w.heap.size w w' := by
  have S1 := fun w => specFinishOf_any a0 a1 w
  have S2 := fun w L => implFinishOf_any a0 a1 w L
  generalize (finR a0 a1).1 = cd at *
  generalize (finR a0 a1).2 = vv at *
  go_enter Tryd.func6, Tryd.ntmps6
  go_wp2_with fail
  refine (S1 _).mono ?_
  rintro r u1 ⟨rfl, b1⟩
  have A1 := At.new u1 [.int .i64 cd, .int .i64 vv] 50
  have B1 := bal b1 (.cells #[.int .i64 cd, .int .i64 vv] 50)
  have L1 := lab.on B1
  go_wp2_with fail
  generalize hW1 : u1.alloc (.cells #[.int .i64 cd, .int .i64 vv] 50) = W1 at *
  refine (S2 _ L1).mono ?_
  rintro r u2 ⟨rfl, b2⟩
  have A2 := (A1.on b2).alloc (.cells #[.int .i64 cd, .int .i64 vv] 50)
  have A3 := At.new u2 [.int .i64 cd, .int .i64 vv] 50
  have B2 := bal (btr B1 b2) (.cells #[.int .i64 cd, .int .i64 vv] 50)
  have p0 := A2.cell 0 _ rfl
  have p1 := A2.cell 1 _ rfl
  have q0 := A3.cell 0 _ rfl
  have q1 := A3.cell 1 _ rfl
  clear A1 A2 A3 b1 b2 B1 S1 S2 L1
  go_wp2_with fail
  refine (eqInt_any cd vv cd vv _ rfl rfl).mono ?_
  rintro r u3 ⟨rfl, b3⟩
  have B3 := btr B2 b3
  go_wp2_with fail
  go_ret
  exact ⟨rfl, B3⟩

end Go.Proofs.YtlodhleihnlchaaDoor.fnExactFinishOf
