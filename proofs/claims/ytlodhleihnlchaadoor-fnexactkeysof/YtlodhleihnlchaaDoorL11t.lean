/- Contracts of what the laws do with results of handshakes. Conditions: as each theorem states. -/
import Derived.Test.YtlodhleihnlchaaDoorL11
import Derived.Test.YtlodhleihnlchaaDoorL6b
namespace Go.Proofs.YtlodhleihnlchaaDoor
open Go.RowKit
set_option maxRecDepth 100000
set_option linter.unusedVariables false

theorem eqKeys_any (u d h k : Int) (w : World) :
    Calls Tryd.prog 38 #[K4 u d h k, K4 u d h k] w fun e w' => e = .returned (.bool true) ∧ Below w.heap.size w w' := by
  have b0 := bal (bal (Below.refl _ w) (.cells #[.int .i64 u, .int .i64 d, .int .i64 h, .int .i64 k] 43)) (.cells #[.int .i64 u, .int .i64 d, .int .i64 h, .int .i64 k] 43)
  go_enter Tryd.func38, Tryd.ntmps38
  go_wp2_with fail
  go_ret
  exact ⟨rfl, b0⟩
theorem eqTaken_any (t : TakD) (w : World) :
    Calls Tryd.prog 16 #[T11 t, T11 t] w fun e w' => e = .returned (.bool true) ∧ Below w.heap.size w w' := by
  obtain ⟨c, r, s, p, x, y, f, u, d, h, k⟩ := t
  show Calls Tryd.prog 16 #[.agg #[.int .i64 c, .int .i64 r, .int .i64 s, .int .i64 p, .int .i64 x, .int .i64 y, .int .i64 f, .int .i64 u, .int .i64 d, .int .i64 h, .int .i64 k], .agg #[.int .i64 c, .int .i64 r, .int .i64 s, .int .i64 p, .int .i64 x, .int .i64 y, .int .i64 f, .int .i64 u, .int .i64 d, .int .i64 h, .int .i64 k]] w _
  have b0 := bal (bal (Below.refl _ w) (.cells #[.int .i64 c, .int .i64 r, .int .i64 s, .int .i64 p, .int .i64 x, .int .i64 y, .int .i64 f, .int .i64 u, .int .i64 d, .int .i64 h, .int .i64 k] 45)) (.cells #[.int .i64 c, .int .i64 r, .int .i64 s, .int .i64 p, .int .i64 x, .int .i64 y, .int .i64 f, .int .i64 u, .int .i64 d, .int .i64 h, .int .i64 k] 45)
  have A0 := (At.new w [.int .i64 c, .int .i64 r, .int .i64 s, .int .i64 p, .int .i64 x, .int .i64 y, .int .i64 f, .int .i64 u, .int .i64 d, .int .i64 h, .int .i64 k] 45).alloc (.cells #[.int .i64 c, .int .i64 r, .int .i64 s, .int .i64 p, .int .i64 x, .int .i64 y, .int .i64 f, .int .i64 u, .int .i64 d, .int .i64 h, .int .i64 k] 45)
  have A1 := At.new (w.alloc (.cells #[.int .i64 c, .int .i64 r, .int .i64 s, .int .i64 p, .int .i64 x, .int .i64 y, .int .i64 f, .int .i64 u, .int .i64 d, .int .i64 h, .int .i64 k] 45)) [.int .i64 c, .int .i64 r, .int .i64 s, .int .i64 p, .int .i64 x, .int .i64 y, .int .i64 f, .int .i64 u, .int .i64 d, .int .i64 h, .int .i64 k] 45
  simp only [World.size_alloc] at A0 A1
  go_enter Tryd.func16, Tryd.ntmps16
  go_wp2_with fail
  generalize (w.alloc (.cells #[.int .i64 c, .int .i64 r, .int .i64 s, .int .i64 p, .int .i64 x, .int .i64 y, .int .i64 f, .int .i64 u, .int .i64 d, .int .i64 h, .int .i64 k] 45)).alloc (.cells #[.int .i64 c, .int .i64 r, .int .i64 s, .int .i64 p, .int .i64 x, .int .i64 y, .int .i64 f, .int .i64 u, .int .i64 d, .int .i64 h, .int .i64 k] 45) = W0 at *
  refine (eqReply_any r s p x y f _).mono ?_
  rintro e u1 ⟨rfl, b1⟩
  have hb := btr b0 b1
  have q0 := (A0.on b1).cell 0 _ rfl
  have q1 := (A0.on b1).cell 1 _ rfl
  have q2 := (A0.on b1).cell 2 _ rfl
  have q3 := (A0.on b1).cell 3 _ rfl
  have q4 := (A0.on b1).cell 4 _ rfl
  have q5 := (A0.on b1).cell 5 _ rfl
  have q6 := (A0.on b1).cell 6 _ rfl
  have q7 := (A0.on b1).cell 7 _ rfl
  have q8 := (A0.on b1).cell 8 _ rfl
  have q9 := (A0.on b1).cell 9 _ rfl
  have q10 := (A0.on b1).cell 10 _ rfl
  have v0 := (A1.on b1).cell 0 _ rfl
  have v1 := (A1.on b1).cell 1 _ rfl
  have v2 := (A1.on b1).cell 2 _ rfl
  have v3 := (A1.on b1).cell 3 _ rfl
  have v4 := (A1.on b1).cell 4 _ rfl
  have v5 := (A1.on b1).cell 5 _ rfl
  have v6 := (A1.on b1).cell 6 _ rfl
  have v7 := (A1.on b1).cell 7 _ rfl
  have v8 := (A1.on b1).cell 8 _ rfl
  have v9 := (A1.on b1).cell 9 _ rfl
  have v10 := (A1.on b1).cell 10 _ rfl
  clear A0 A1 b0 b1
  go_wp2_with fail
  refine (eqKeys_any u d h k _).mono ?_
  rintro e u2 ⟨rfl, b2⟩
  have hb2 := btr hb b2
  go_wp2_with fail
  go_ret
  exact ⟨rfl, hb2⟩
end Go.Proofs.YtlodhleihnlchaaDoor
