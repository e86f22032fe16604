/- Contracts of what the laws do with replies: compare them, copy them. Conditions: as each theorem states. -/
import Derived.Test.YtepailfhagaboaaGreatDoorC6b
namespace Go.Proofs.YtepailfhagaboaaGreatDoor
open Go.RowKit
set_option maxRecDepth 100000
set_option linter.unusedVariables false

theorem toReply_any (r s p x y f : Int) (w : World) :
    Calls Tryz.prog 27 #[R6 r s p x y f] w fun e w' => e = .returned (R6 r s p x y f) ∧ Below w.heap.size w w' := by
  have b0 := bal (bal (bal (Below.refl _ w) (.cells #[.int .i64 r, .int .i64 s, .int .i64 p, .int .i64 x, .int .i64 y, .int .i64 f] 56)) (.cells #[.int .i64 0, .int .i64 0, .int .i64 0, .int .i64 0, .int .i64 0, .int .i64 0] 33)) (.cells #[.int .i64 r, .int .i64 s, .int .i64 p, .int .i64 0, .int .i64 0, .int .i64 0] 33)
  have A0 := ((At.new w (RL6 r s p x y f) 56).alloc (.cells #[.int .i64 0, .int .i64 0, .int .i64 0, .int .i64 0, .int .i64 0, .int .i64 0] 33)).alloc (.cells #[.int .i64 r, .int .i64 s, .int .i64 p, .int .i64 0, .int .i64 0, .int .i64 0] 33)
  have A1 := (At.new (w.alloc (.cells #[.int .i64 r, .int .i64 s, .int .i64 p, .int .i64 x, .int .i64 y, .int .i64 f] 56)) (RL6 0 0 0 0 0 0) 33).alloc (.cells #[.int .i64 r, .int .i64 s, .int .i64 p, .int .i64 0, .int .i64 0, .int .i64 0] 33)
  have A2 := At.new ((w.alloc (.cells #[.int .i64 r, .int .i64 s, .int .i64 p, .int .i64 x, .int .i64 y, .int .i64 f] 56)).alloc (.cells #[.int .i64 0, .int .i64 0, .int .i64 0, .int .i64 0, .int .i64 0, .int .i64 0] 33)) (RL6 r s p 0 0 0) 33
  simp only [World.size_alloc] at A0 A1 A2
  go_enter Tryz.func27, Tryz.ntmps27
  go_wp2_with fail
  generalize ((w.alloc (.cells #[.int .i64 r, .int .i64 s, .int .i64 p, .int .i64 x, .int .i64 y, .int .i64 f] 56)).alloc (.cells #[.int .i64 0, .int .i64 0, .int .i64 0, .int .i64 0, .int .i64 0, .int .i64 0] 33)).alloc (.cells #[.int .i64 r, .int .i64 s, .int .i64 p, .int .i64 0, .int .i64 0, .int .i64 0] 33) = W0 at *
  refine (toSigned_any x y _).mono ?_
  rintro e u1 ⟨rfl, b1⟩
  have hb := btr b0 b1
  have c0 := (A0.on b1).cell 0 _ rfl
  have c1 := (A0.on b1).cell 1 _ rfl
  have c2 := (A0.on b1).cell 2 _ rfl
  have c3 := (A0.on b1).cell 3 _ rfl
  have c4 := (A0.on b1).cell 4 _ rfl
  have c5 := (A0.on b1).cell 5 _ rfl
  have d0 := (A1.on b1).cell 0 _ rfl
  have d1 := (A1.on b1).cell 1 _ rfl
  have d2 := (A1.on b1).cell 2 _ rfl
  have d3 := (A1.on b1).cell 3 _ rfl
  have d4 := (A1.on b1).cell 4 _ rfl
  have d5 := (A1.on b1).cell 5 _ rfl
  have z0 := (A1.on b1).free 0 _ rfl
  have z1 := (A1.on b1).free 1 _ rfl
  have z2 := (A1.on b1).free 2 _ rfl
  have z3 := (A1.on b1).free 3 _ rfl
  have z4 := (A1.on b1).free 4 _ rfl
  have z5 := (A1.on b1).free 5 _ rfl
  have k0 := (A2.on b1).cell 0 _ rfl
  have k1 := (A2.on b1).cell 1 _ rfl
  have k2 := (A2.on b1).cell 2 _ rfl
  have k3 := (A2.on b1).cell 3 _ rfl
  have k4 := (A2.on b1).cell 4 _ rfl
  have k5 := (A2.on b1).cell 5 _ rfl
  have v0 := (A2.on b1).free 0 _ rfl
  have v1 := (A2.on b1).free 1 _ rfl
  have v2 := (A2.on b1).free 2 _ rfl
  have v3 := (A2.on b1).free 3 _ rfl
  have v4 := (A2.on b1).free 4 _ rfl
  have v5 := (A2.on b1).free 5 _ rfl
  clear A0 A1 A2 b0 b1
  go_wp2_with fail
  refine bodyPost_ret (v := R6 r s p x y f) (by simp [results, Tryz.results27, go_sem, d0, d1, d2, d3, d4, d5]) rfl ⟨rfl, ?_⟩
  exact (by (iterate 9 (refine bset ?_ (by dsimp only; omega) _)); exact hb)
end Go.Proofs.YtepailfhagaboaaGreatDoor
