/- The function SignSum answers, at every argument, as its model does. The walk: the law's Go text answers true and turns nothing that was there. Conditions: as the theorem states. -/
import Derived.Test.YtjlhldndomaknaaDoorC3e
import Derived.WalkKit
import Derived.Below
namespace Go.Proofs.YtjlhldndomaknaaDoor.fnExactSignSum
open Go.RowKit
set_option linter.unusedVariables false

set_option maxRecDepth 100000 in
theorem walk (a0 : Int) (a1 : Int) (w : World) (w0 : (Lit.int .i64 a0).wf = true) (w1 : (Lit.int .i64 a1).wf = true) (lab : Labels w) (ert : ErrT w) :
    Calls Tryd.prog 10 #[.int .i64 a0, .int .i64 a1] w fun e w' => e = .returned (.bool true) ∧ Below w.heap.size w w' := by
  have S1 := fun w => specSignSum_any a0 a1 w
  have S2 := fun w hL hg => implSignSum_any a0 a1 w hL hg
  generalize (M.signR a0 a1).1 = x at *
  generalize (M.signR a0 a1).2.1 = y at *
  generalize (M.signR a0 a1).2.2 = z at *
  go_enter Tryd.func10, Tryd.ntmps10
  go_wp2_with fail
  refine (S1 _).mono ?_
  rintro r w1 ⟨rfl, h1⟩
  have c0 : (w1.alloc (.cells #[.int .i64 x, .int .i64 y, .int .i64 z] 51)).cell? ⟨w1.heap.size, 0, none⟩ = some (.int .i64 x) := by go_simp
  have c1 : (w1.alloc (.cells #[.int .i64 x, .int .i64 y, .int .i64 z] 51)).cell? ⟨w1.heap.size, 1, none⟩ = some (.int .i64 y) := by go_simp
  have c2 : (w1.alloc (.cells #[.int .i64 x, .int .i64 y, .int .i64 z] 51)).cell? ⟨w1.heap.size, 2, none⟩ = some (.int .i64 z) := by go_simp
  have b1 := bal h1 (.cells #[.int .i64 x, .int .i64 y, .int .i64 z] 51)
  clear h1
  go_wp2_with fail
  generalize w1.alloc (.cells #[.int .i64 x, .int .i64 y, .int .i64 z] 51) = v1 at *
  refine (S2 _ (lab.on b1) (ert.on b1)).mono ?_
  rintro r w2 ⟨rfl, h2⟩
  have d0 := cell_keep h2 c0
  have d1 := cell_keep h2 c1
  have d2 := cell_keep h2 c2
  have b2 := btr b1 h2
  have hlt := cell_lt d0
  clear b1 h2 c0 c1 c2
  go_wp2_with fail
  refine (eqSignR_any _ _ _ _).mono ?_
  rintro r w3 ⟨rfl, h3⟩
  have b3 := btr (bal b2 _) h3
  clear b2 h3
  go_wp2_with fail
  go_ret
  exact ⟨rfl, b3⟩

end Go.Proofs.YtjlhldndomaknaaDoor.fnExactSignSum
