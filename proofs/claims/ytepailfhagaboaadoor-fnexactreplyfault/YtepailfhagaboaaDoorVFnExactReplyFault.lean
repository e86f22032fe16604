/- The function ReplyFault answers, at every argument, as its model does. The walk: the law's Go text answers true and turns nothing that was there. Conditions: as the theorem states. -/
import Derived.Test.YtepailfhagaboaaDoorC6b
import Derived.Test.YtepailfhagaboaaDoorL6b
import Derived.Test.YtepailfhagaboaaDoorOpen6
import Derived.WalkKit
import Derived.Below
namespace Go.Proofs.YtepailfhagaboaaDoor.fnExactReplyFault
open Go.RowKit
set_option linter.unusedVariables false

set_option maxRecDepth 100000 in
theorem walk (a0r a0s a0p a0x a0y a0f : Int) (w : World) (w0r : (Lit.int .i64 a0r).wf = true) (w0s : (Lit.int .i64 a0s).wf = true) (w0p : (Lit.int .i64 a0p).wf = true) (w0x : (Lit.int .i64 a0x).wf = true) (w0y : (Lit.int .i64 a0y).wf = true) (w0f : (Lit.int .i64 a0f).wf = true) (ert : ErrT w) :
    Calls Tryd.prog 6 #[.agg #[.int .i64 a0r, .int .i64 a0s, .int .i64 a0p, .int .i64 a0x, .int .i64 a0y, .int .i64 a0f]] w fun e w' => e = .returned (.bool true) ∧ Below w.heap.size w w' := by
  have b0 := bal (Below.refl _ w) (.cells #[.int .i64 a0r, .int .i64 a0s, .int .i64 a0p, .int .i64 a0x, .int .i64 a0y, .int .i64 a0f] 45)
  have A0 := At.new w (RL6 a0r a0s a0p a0x a0y a0f) 45
  have S0 := fun w => toReply_any a0r a0s a0p a0x a0y a0f w
  have S1 := fun w => specReplyFault_any a0r a0s a0p a0x a0y a0f w
  have S2 := fun w hg => implReplyFault_any a0r a0s a0p a0x a0y a0f w hg
  generalize repF a0r a0s a0p a0x a0y a0f = cd at *
  have E0 := ert.on b0
  go_enter Tryd.func6, Tryd.ntmps6
  go_wp2_with fail
  generalize w.alloc (.cells #[.int .i64 a0r, .int .i64 a0s, .int .i64 a0p, .int .i64 a0x, .int .i64 a0y, .int .i64 a0f] 45) = W0 at *
  refine (S0 _).mono ?_
  rintro r u2 ⟨rfl, b2⟩
  go_wp2_with fail
  refine (S1 _).mono ?_
  rintro r u3 ⟨rfl, b3⟩
  have b13 := btr b2 b3
  have A3 := A0.on b13
  have B3 := btr b0 b13
  have E3 := E0.on b13
  have q0 := A3.cell 0 _ rfl
  have q1 := A3.cell 1 _ rfl
  have q2 := A3.cell 2 _ rfl
  have q3 := A3.cell 3 _ rfl
  have q4 := A3.cell 4 _ rfl
  have q5 := A3.cell 5 _ rfl
  clear b2 b3 b13 A0 b0 E0
  go_wp2_with fail
  refine (S0 _).mono ?_
  rintro r u4 ⟨rfl, b4⟩
  go_wp2_with fail
  refine (S2 _ (E3.on b4)).mono ?_
  rintro r u5 ⟨rfl, b5⟩
  have B5 := btr B3 (btr b4 b5)
  clear b4 b5 B3 A3
  go_wp2_with fail
  go_ret
  exact ⟨rfl, B5⟩

end Go.Proofs.YtepailfhagaboaaDoor.fnExactReplyFault
