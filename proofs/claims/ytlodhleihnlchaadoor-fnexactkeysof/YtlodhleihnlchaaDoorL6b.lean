/- Contracts of what the laws do with replies: compare them, copy them. Conditions: as each theorem states. -/
import Derived.Test.YtlodhleihnlchaaDoorC6b
namespace Go.Proofs.YtlodhleihnlchaaDoor
open Go.RowKit
set_option maxRecDepth 100000
set_option linter.unusedVariables false

theorem eqSigned6_any (x y : Int) (w : World) :
    Calls Tryd.prog 59 #[I2 x y, I2 x y] w fun e w' => e = .returned (.bool true) ∧ Below w.heap.size w w' := by
  have b0 := bal (bal (Below.refl _ w) (.cells #[.int .i64 x, .int .i64 y] 39)) (.cells #[.int .i64 x, .int .i64 y] 39)
  go_enter Tryd.func59, Tryd.ntmps59
  go_wp2_with fail
  go_ret
  exact ⟨rfl, b0⟩
theorem eqReply_any (r s p x y f : Int) (w : World) :
    Calls Tryd.prog 37 #[R6 r s p x y f, R6 r s p x y f] w fun e w' => e = .returned (.bool true) ∧ Below w.heap.size w w' := by
  have b0 := bal (bal (Below.refl _ w) (.cells #[.int .i64 r, .int .i64 s, .int .i64 p, .int .i64 x, .int .i64 y, .int .i64 f] 41)) (.cells #[.int .i64 r, .int .i64 s, .int .i64 p, .int .i64 x, .int .i64 y, .int .i64 f] 41)
  have A0 := (At.new w (RL6 r s p x y f) 41).alloc (.cells #[.int .i64 r, .int .i64 s, .int .i64 p, .int .i64 x, .int .i64 y, .int .i64 f] 41)
  have A1 := At.new (w.alloc (.cells #[.int .i64 r, .int .i64 s, .int .i64 p, .int .i64 x, .int .i64 y, .int .i64 f] 41)) (RL6 r s p x y f) 41
  simp only [World.size_alloc] at A0 A1
  go_enter Tryd.func37, Tryd.ntmps37
  go_wp2_with fail
  generalize (w.alloc (.cells #[.int .i64 r, .int .i64 s, .int .i64 p, .int .i64 x, .int .i64 y, .int .i64 f] 41)).alloc (.cells #[.int .i64 r, .int .i64 s, .int .i64 p, .int .i64 x, .int .i64 y, .int .i64 f] 41) = W0 at *
  refine (eqSigned6_any x y _).mono ?_
  rintro e u1 ⟨rfl, b1⟩
  have hb := btr b0 b1
  have c0 := (A0.on b1).cell 0 _ rfl
  have c1 := (A0.on b1).cell 1 _ rfl
  have c2 := (A0.on b1).cell 2 _ rfl
  have c3 := (A0.on b1).cell 3 _ rfl
  have c4 := (A0.on b1).cell 4 _ rfl
  have c5 := (A0.on b1).cell 5 _ rfl
  have d0 := (A1.on b1).cell 0 _ rfl
  have d1 := (A1.on b1).cell 1 _ rfl
  have d2 := (A1.on b1).cell 2 _ rfl
  have d3 := (A1.on b1).cell 3 _ rfl
  have d4 := (A1.on b1).cell 4 _ rfl
  have d5 := (A1.on b1).cell 5 _ rfl
  clear A0 A1
  go_wp2_with fail
  go_ret
  exact ⟨rfl, hb⟩
end Go.Proofs.YtlodhleihnlchaaDoor
