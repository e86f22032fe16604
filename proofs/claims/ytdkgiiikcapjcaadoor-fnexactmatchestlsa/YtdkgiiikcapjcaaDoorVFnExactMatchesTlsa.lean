/- The function MatchesTlsa answers, at every argument, as its model does. The walk: the law's Go text answers true and turns nothing that was there. Conditions: as the theorem states. -/
import Derived.Test.YtdkgiiikcapjcaaDoorL5
import Derived.Test.YtdkgiiikcapjcaaDoorC5i
import Derived.Test.YtdkgiiikcapjcaaDoorOpen5
import Derived.WalkKit
import Derived.Below
namespace Go.Proofs.YtdkgiiikcapjcaaDoor.fnExactMatchesTlsa
open Go.RowKit
set_option linter.unusedVariables false

set_option maxRecDepth 100000 in
theorem walk (a0n : ByteArray) (a0u a0m a0v : Int) (a1 : ByteArray) (a2 : Int) (w : World) (w0n : a0n.size ≤ maxLen) (w0u : (Lit.int .i64 a0u).wf = true) (w0m : (Lit.int .i64 a0m).wf = true) (w0v : (Lit.int .i64 a0v).wf = true) (w1 : a1.size ≤ maxLen) (w2 : (Lit.int .i64 a2).wf = true) (lab : Labels w) :
    Calls Tryd.prog 9 #[.agg #[.string a0n, .int .i64 a0u, .int .i64 a0m, .int .i64 a0v], .string a1, .int .i64 a2] w fun e w' => e = .returned (.bool true) ∧ Below w.heap.size w w' := by
  have hm := w0n
  have hm1 := w1
  unfold maxLen at hm hm1
  have b0 := bal (Below.refl _ w) (.cells #[.string a0n, .int .i64 a0u, .int .i64 a0m, .int .i64 a0v] 49)
  have A0 := At.new w (TL4 a0n a0u a0m a0v) 49
  by_cases hbig1 : 1048576 < a1.size
  · have hb' : (1048576 : Int) < a1.size := by omega
    go_enter Tryd.func9, Tryd.ntmps9
    go_wp2_with fail
    go_ret
    exact ⟨rfl, b0⟩
  have hb' : (a1.size : Int) ≤ 1048576 := by omega
  have F := fun w => szTlsa_any a0n a0u a0m a0v 1048576 w w0n (by omega) (by omega)
  by_cases hbig : (1048576 : Int) < a0n.size
  · simp only [if_pos hbig] at F
    go_enter Tryd.func9, Tryd.ntmps9
    go_wp2_with fail
    refine (F _).mono ?_
    rintro r u1 ⟨rfl, b1⟩
    have hb := btr b0 b1
    go_wp2_with fail
    go_ret
    exact ⟨rfl, hb⟩
  simp only [if_neg hbig] at F
  have hs0 : ¬ (1048576 : Int) - a0n.size < 0 := by omega
  have S0 := fun w => toTlsa_any a0n a0u a0m a0v w
  have S1 := fun w => specMatchesTlsa_any a0n a0u a0m a0v a1 a2 w w0n w1
  have S2 := fun w lab => implMatchesTlsa_any a0n a0u a0m a0v a1 a2 w lab w1
  generalize M.matchB a0n.data.toList a0u a0m a0v a1.data.toList (pubB a2) a2 = cd at *
  go_enter Tryd.func9, Tryd.ntmps9
  go_wp2_with fail
  generalize w.alloc (.cells #[.string a0n, .int .i64 a0u, .int .i64 a0m, .int .i64 a0v] 49) = W0 at *
  refine (F _).mono ?_
  rintro r u1 ⟨rfl, b1⟩
  have A1 := A0.on b1
  have B1 := btr b0 b1
  have p0 := A1.cell 0 _ rfl
  have p1 := A1.cell 1 _ rfl
  have p2 := A1.cell 2 _ rfl
  have p3 := A1.cell 3 _ rfl
  clear b1 b0 A0
  go_wp2_with fail
  refine (S0 _).mono ?_
  rintro r u2 ⟨rfl, b2⟩
  go_wp2_with fail
  refine (S1 _).mono ?_
  rintro r u3 ⟨rfl, b3⟩
  have b13 := btr b2 b3
  have A3 := A1.on b13
  have B3 := btr B1 b13
  have q0 := A3.cell 0 _ rfl
  have q1 := A3.cell 1 _ rfl
  have q2 := A3.cell 2 _ rfl
  have q3 := A3.cell 3 _ rfl
  clear b2 b3 b13 A1 B1 p0 p1 p2 p3
  go_wp2_with fail
  refine (S0 _).mono ?_
  rintro r u4 ⟨rfl, b4⟩
  have L4 := lab.on (btr B3 b4)
  go_wp2_with fail
  refine (S2 _ L4).mono ?_
  rintro r u5 ⟨rfl, b5⟩
  have B5 := btr B3 (btr b4 b5)
  clear b4 b5 B3 A3
  go_wp2_with fail
  all_goals
    go_ret
    first | exact ⟨rfl, B5⟩ | (simp_all; done)

end Go.Proofs.YtdkgiiikcapjcaaDoor.fnExactMatchesTlsa
