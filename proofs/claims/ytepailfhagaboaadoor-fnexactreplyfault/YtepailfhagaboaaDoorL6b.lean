/- Contracts of what the laws do with replies: compare them, copy them. Conditions: as each theorem states. -/
import Derived.Test.YtepailfhagaboaaDoorC6b
namespace Go.Proofs.YtepailfhagaboaaDoor
open Go.RowKit
set_option maxRecDepth 100000
set_option linter.unusedVariables false

theorem eqSigned6_any (x y : Int) (w : World) :
    Calls Tryd.prog 69 #[I2 x y, I2 x y] w fun e w' => e = .returned (.bool true) ∧ Below w.heap.size w w' := by
  have b0 := bal (bal (Below.refl _ w) (.cells #[.int .i64 x, .int .i64 y] 47)) (.cells #[.int .i64 x, .int .i64 y] 47)
  go_enter Tryd.func69, Tryd.ntmps69
  go_wp2_with fail
  go_ret
  exact ⟨rfl, b0⟩
theorem eqReply_any (r s p x y f : Int) (w : World) :
    Calls Tryd.prog 49 #[R6 r s p x y f, R6 r s p x y f] w fun e w' => e = .returned (.bool true) ∧ Below w.heap.size w w' := by
  have b0 := bal (bal (Below.refl _ w) (.cells #[.int .i64 r, .int .i64 s, .int .i64 p, .int .i64 x, .int .i64 y, .int .i64 f] 49)) (.cells #[.int .i64 r, .int .i64 s, .int .i64 p, .int .i64 x, .int .i64 y, .int .i64 f] 49)
  have A0 := (At.new w (RL6 r s p x y f) 49).alloc (.cells #[.int .i64 r, .int .i64 s, .int .i64 p, .int .i64 x, .int .i64 y, .int .i64 f] 49)
  have A1 := At.new (w.alloc (.cells #[.int .i64 r, .int .i64 s, .int .i64 p, .int .i64 x, .int .i64 y, .int .i64 f] 49)) (RL6 r s p x y f) 49
  simp only [World.size_alloc] at A0 A1
  go_enter Tryd.func49, Tryd.ntmps49
  go_wp2_with fail
  generalize (w.alloc (.cells #[.int .i64 r, .int .i64 s, .int .i64 p, .int .i64 x, .int .i64 y, .int .i64 f] 49)).alloc (.cells #[.int .i64 r, .int .i64 s, .int .i64 p, .int .i64 x, .int .i64 y, .int .i64 f] 49) = W0 at *
  refine (eqSigned6_any x y _).mono ?_
  rintro e u1 ⟨rfl, b1⟩
  have hb := btr b0 b1
  have c0 := (A0.on b1).cell 0 _ rfl
  have c1 := (A0.on b1).cell 1 _ rfl
  have c2 := (A0.on b1).cell 2 _ rfl
  have c3 := (A0.on b1).cell 3 _ rfl
  have c4 := (A0.on b1).cell 4 _ rfl
  have c5 := (A0.on b1).cell 5 _ rfl
  have d0 := (A1.on b1).cell 0 _ rfl
  have d1 := (A1.on b1).cell 1 _ rfl
  have d2 := (A1.on b1).cell 2 _ rfl
  have d3 := (A1.on b1).cell 3 _ rfl
  have d4 := (A1.on b1).cell 4 _ rfl
  have d5 := (A1.on b1).cell 5 _ rfl
  clear A0 A1
  go_wp2_with fail
  go_ret
  exact ⟨rfl, hb⟩
theorem eqReplyResult_any (c r s p x y f : Int) (w : World) :
    Calls Tryd.prog 30 #[R7 c r s p x y f, R7 c r s p x y f] w fun e w' => e = .returned (.bool true) ∧ Below w.heap.size w w' := by
  have b0 := bal (bal (Below.refl _ w) (.cells #[.int .i64 c, .int .i64 r, .int .i64 s, .int .i64 p, .int .i64 x, .int .i64 y, .int .i64 f] 54)) (.cells #[.int .i64 c, .int .i64 r, .int .i64 s, .int .i64 p, .int .i64 x, .int .i64 y, .int .i64 f] 54)
  go_enter Tryd.func30, Tryd.ntmps30
  go_wp2_with fail
  refine (eqReply_any r s p x y f _).mono ?_
  rintro e u1 ⟨rfl, b1⟩
  have hb := btr b0 b1
  go_wp2_with fail
  go_ret
  exact ⟨rfl, hb⟩
theorem toReply_any (r s p x y f : Int) (w : World) :
    Calls Tryd.prog 24 #[R6 r s p x y f] w fun e w' => e = .returned (R6 r s p x y f) ∧ Below w.heap.size w w' := by
  have b0 := bal (bal (bal (Below.refl _ w) (.cells #[.int .i64 r, .int .i64 s, .int .i64 p, .int .i64 x, .int .i64 y, .int .i64 f] 45)) (.cells #[.int .i64 0, .int .i64 0, .int .i64 0, .int .i64 0, .int .i64 0, .int .i64 0] 49)) (.cells #[.int .i64 r, .int .i64 s, .int .i64 p, .int .i64 0, .int .i64 0, .int .i64 0] 49)
  have A0 := ((At.new w (RL6 r s p x y f) 45).alloc (.cells #[.int .i64 0, .int .i64 0, .int .i64 0, .int .i64 0, .int .i64 0, .int .i64 0] 49)).alloc (.cells #[.int .i64 r, .int .i64 s, .int .i64 p, .int .i64 0, .int .i64 0, .int .i64 0] 49)
  have A1 := (At.new (w.alloc (.cells #[.int .i64 r, .int .i64 s, .int .i64 p, .int .i64 x, .int .i64 y, .int .i64 f] 45)) (RL6 0 0 0 0 0 0) 49).alloc (.cells #[.int .i64 r, .int .i64 s, .int .i64 p, .int .i64 0, .int .i64 0, .int .i64 0] 49)
  have A2 := At.new ((w.alloc (.cells #[.int .i64 r, .int .i64 s, .int .i64 p, .int .i64 x, .int .i64 y, .int .i64 f] 45)).alloc (.cells #[.int .i64 0, .int .i64 0, .int .i64 0, .int .i64 0, .int .i64 0, .int .i64 0] 49)) (RL6 r s p 0 0 0) 49
  simp only [World.size_alloc] at A0 A1 A2
  go_enter Tryd.func24, Tryd.ntmps24
  go_wp2_with fail
  generalize ((w.alloc (.cells #[.int .i64 r, .int .i64 s, .int .i64 p, .int .i64 x, .int .i64 y, .int .i64 f] 45)).alloc (.cells #[.int .i64 0, .int .i64 0, .int .i64 0, .int .i64 0, .int .i64 0, .int .i64 0] 49)).alloc (.cells #[.int .i64 r, .int .i64 s, .int .i64 p, .int .i64 0, .int .i64 0, .int .i64 0] 49) = W0 at *
  refine (toSigned_any x y _).mono ?_
  rintro e u1 ⟨rfl, b1⟩
  have hb := btr b0 b1
  have c0 := (A0.on b1).cell 0 _ rfl
  have c1 := (A0.on b1).cell 1 _ rfl
  have c2 := (A0.on b1).cell 2 _ rfl
  have c3 := (A0.on b1).cell 3 _ rfl
  have c4 := (A0.on b1).cell 4 _ rfl
  have c5 := (A0.on b1).cell 5 _ rfl
  have d0 := (A1.on b1).cell 0 _ rfl
  have d1 := (A1.on b1).cell 1 _ rfl
  have d2 := (A1.on b1).cell 2 _ rfl
  have d3 := (A1.on b1).cell 3 _ rfl
  have d4 := (A1.on b1).cell 4 _ rfl
  have d5 := (A1.on b1).cell 5 _ rfl
  have z0 := (A1.on b1).free 0 _ rfl
  have z1 := (A1.on b1).free 1 _ rfl
  have z2 := (A1.on b1).free 2 _ rfl
  have z3 := (A1.on b1).free 3 _ rfl
  have z4 := (A1.on b1).free 4 _ rfl
  have z5 := (A1.on b1).free 5 _ rfl
  have k0 := (A2.on b1).cell 0 _ rfl
  have k1 := (A2.on b1).cell 1 _ rfl
  have k2 := (A2.on b1).cell 2 _ rfl
  have k3 := (A2.on b1).cell 3 _ rfl
  have k4 := (A2.on b1).cell 4 _ rfl
  have k5 := (A2.on b1).cell 5 _ rfl
  have v0 := (A2.on b1).free 0 _ rfl
  have v1 := (A2.on b1).free 1 _ rfl
  have v2 := (A2.on b1).free 2 _ rfl
  have v3 := (A2.on b1).free 3 _ rfl
  have v4 := (A2.on b1).free 4 _ rfl
  have v5 := (A2.on b1).free 5 _ rfl
  clear A0 A1 A2 b0 b1
  go_wp2_with fail
  refine bodyPost_ret (v := R6 r s p x y f) (by simp [results, Tryd.results24, go_sem, d0, d1, d2, d3, d4, d5]) rfl ⟨rfl, ?_⟩
  exact (by (iterate 9 (refine bset ?_ (by dsimp only; omega) _)); exact hb)
end Go.Proofs.YtepailfhagaboaaDoor
