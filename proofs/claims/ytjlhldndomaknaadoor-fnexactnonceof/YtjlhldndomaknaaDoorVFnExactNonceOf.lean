/- The function NonceOf answers, at every argument, as its model does. The walk: the law's Go text answers true and turns nothing that was there. Conditions: as the theorem states. -/
import Derived.Test.YtjlhldndomaknaaDoorC3d
import Derived.WalkKit
import Derived.Below
namespace Go.Proofs.YtjlhldndomaknaaDoor.fnExactNonceOf
open Go.RowKit
set_option linter.unusedVariables false

set_option maxRecDepth 100000 in
theorem walk (a0 : Int) (a1 : Int) (w : World) (w0 : (Lit.int .i64 a0).wf = true) (w1 : (Lit.int .i64 a1).wf = true) (lab : Labels w) (ert : ErrT w) :
    Calls Tryd.prog 9 #[.int .i64 a0, .int .i64 a1] w fun e w' => e = .returned (.bool true) ∧ Below w.heap.size w w' := by
  go_enter Tryd.func9, Tryd.ntmps9
  go_wp2_with fail
  refine (specNonceOf_any _ _ _).mono ?_
  rintro r w1 ⟨rfl, h1⟩
  have c0 : (w1.alloc (.cells #[.int .i64 (M.nonceR a0 a1).1, .int .i64 (M.nonceR a0 a1).2] 27)).cell? ⟨w1.heap.size, 0, none⟩ = some (.int .i64 (M.nonceR a0 a1).1) := by go_simp
  have c1 : (w1.alloc (.cells #[.int .i64 (M.nonceR a0 a1).1, .int .i64 (M.nonceR a0 a1).2] 27)).cell? ⟨w1.heap.size, 1, none⟩ = some (.int .i64 (M.nonceR a0 a1).2) := by go_simp
  have b1 := bal h1 (.cells #[.int .i64 (M.nonceR a0 a1).1, .int .i64 (M.nonceR a0 a1).2] 27)
  clear h1
  go_wp2_with fail
  generalize w1.alloc (.cells #[.int .i64 (M.nonceR a0 a1).1, .int .i64 (M.nonceR a0 a1).2] 27) = v1 at *
  refine (implNonceOf_any _ _ _ (lab.on b1) (ert.on b1)).mono ?_
  rintro r w2 ⟨rfl, h2⟩
  have d0 := cell_keep h2 c0
  have d1 := cell_keep h2 c1
  have b2 := btr b1 h2
  have hlt := cell_lt d0
  clear b1 h2 c0 c1
  go_wp2_with fail
  refine (eqInt_any _ _ _ _ _ rfl rfl).mono ?_
  rintro r w3 ⟨rfl, h3⟩
  have b3 := btr (bal b2 _) h3
  clear b2 h3
  go_wp2_with fail
  go_ret
  exact ⟨rfl, b3⟩

end Go.Proofs.YtjlhldndomaknaaDoor.fnExactNonceOf
