/- The function StartClient answers, at every argument, as its model does. The walk: the law's Go text answers true and turns nothing that was there. Conditions: as the theorem states. -/
import Derived.Test.YtlodhleihnlchaaDoorL11
import Derived.Test.YtlodhleihnlchaaDoorC11b
import Derived.Test.YtlodhleihnlchaaDoorC11c
import Derived.WalkKit
import Derived.Below
namespace Go.Proofs.YtlodhleihnlchaaDoor.fnExactStartClient
open Go.RowKit
set_option linter.unusedVariables false

set_option maxRecDepth 100000 in
theorem walk (a0 : Int) (a1 : Int) (a2 : ByteArray) (w : World) (w0 : (Lit.int .i64 a0).wf = true) (w1 : (Lit.int .i64 a1).wf = true) (w2 : a2.size ≤ maxLen) :
    Calls Tryd.prog 4 #[.int .i64 a0, .int .i64 a1, .string a2] w fun e w' => e = .returned (.bool true) ∧ Below w.heap.size w w' := by
  have hm := w2
  unfold maxLen at hm
  by_cases hbig : 1048576 < a2.size
  · have hb' : (1048576 : Int) < a2.size := by omega
    go_enter Tryd.func4, Tryd.ntmps4
    go_wp2_with fail
    go_ret
    exact ⟨rfl, Below.refl _ _⟩
  have hb' : (a2.size : Int) ≤ 1048576 := by omega
  have S1 := fun w => specStartClient_any a0 a1 a2 w w2
  have S2 := fun w => implStartClient_any a0 a1 a2 w w2
  generalize staI a0 a1 a2 a0 = k at *
  generalize staI a0 a1 a2 a1 = r at *
  generalize staI a0 a1 a2 (M.pubN a0) = s at *
  generalize staN a0 a1 a2 = n at *
  generalize staC a0 a1 a2 = cd at *
  go_enter Tryd.func4, Tryd.ntmps4
  go_wp2_with fail
  refine (S1 _).mono ?_
  rintro e u1 ⟨rfl, b1⟩
  have A1 := At.new u1 [.int .i64 cd, .int .i64 k, .int .i64 r, .int .i64 s, .string n] 34
  have B1 := bal b1 (.cells #[.int .i64 cd, .int .i64 k, .int .i64 r, .int .i64 s, .string n] 34)
  go_wp2_with fail
  generalize hW1 : u1.alloc (.cells #[.int .i64 cd, .int .i64 k, .int .i64 r, .int .i64 s, .string n] 34) = W1 at *
  refine (S2 _).mono ?_
  rintro e u2 ⟨rfl, b2⟩
  have A2 := (A1.on b2).alloc (.cells #[.int .i64 cd, .int .i64 k, .int .i64 r, .int .i64 s, .string n] 34)
  have A3 := At.new u2 [.int .i64 cd, .int .i64 k, .int .i64 r, .int .i64 s, .string n] 34
  have B2 := bal (btr B1 b2) (.cells #[.int .i64 cd, .int .i64 k, .int .i64 r, .int .i64 s, .string n] 34)
  have p0 := A2.cell 0 _ rfl
  have p1 := A2.cell 1 _ rfl
  have p2 := A2.cell 2 _ rfl
  have p3 := A2.cell 3 _ rfl
  have p4 := A2.cell 4 _ rfl
  have q0 := A3.cell 0 _ rfl
  have q1 := A3.cell 1 _ rfl
  have q2 := A3.cell 2 _ rfl
  have q3 := A3.cell 3 _ rfl
  have q4 := A3.cell 4 _ rfl
  clear A1 A2 A3 b1 b2 B1 S1 S2
  go_wp2_with fail
  refine (eqClientResult_any cd k r s n _).mono ?_
  rintro e u3 ⟨rfl, b3⟩
  have B3 := btr B2 b3
  go_wp2_with fail
  go_ret
  exact ⟨rfl, B3⟩

end Go.Proofs.YtlodhleihnlchaaDoor.fnExactStartClient
