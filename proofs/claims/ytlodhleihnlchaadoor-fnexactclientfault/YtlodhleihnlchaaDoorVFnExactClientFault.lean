/- The function ClientFault answers, at every argument, as its model does. The walk: the law's Go text answers true and turns nothing that was there. Conditions: as the theorem states. -/
import Derived.Test.YtlodhleihnlchaaDoorL11
import Derived.Test.YtlodhleihnlchaaDoorC11b
import Derived.Test.YtlodhleihnlchaaDoorC11c
import Derived.Test.YtlodhleihnlchaaDoorOpen11
import Derived.WalkKit
import Derived.Below
namespace Go.Proofs.YtlodhleihnlchaaDoor.fnExactClientFault
open Go.RowKit
set_option linter.unusedVariables false

set_option maxRecDepth 100000 in
theorem walk (a0k a0r a0s : Int) (a0n : ByteArray) (w : World) (w0k : (Lit.int .i64 a0k).wf = true) (w0r : (Lit.int .i64 a0r).wf = true) (w0s : (Lit.int .i64 a0s).wf = true) (w0n : a0n.size ≤ maxLen) :
    Calls Tryd.prog 3 #[.agg #[.int .i64 a0k, .int .i64 a0r, .int .i64 a0s, .string a0n]] w fun e w' => e = .returned (.bool true) ∧ Below w.heap.size w w' := by
  have hm := w0n
  unfold maxLen at hm
  have b0 := bal (Below.refl _ w) (.cells #[.int .i64 a0k, .int .i64 a0r, .int .i64 a0s, .string a0n] 25)
  have A0 := At.new w (HL4 a0k a0r a0s a0n) 25
  have F := fun w => szClient_any a0k a0r a0s a0n 1048576 w w0n (by omega) (by omega)
  by_cases hbig : (1048576 : Int) < a0n.size
  · simp only [if_pos hbig] at F
    go_enter Tryd.func3, Tryd.ntmps3
    go_wp2_with fail
    refine (F _).mono ?_
    rintro r u1 ⟨rfl, b1⟩
    have hb := btr b0 b1
    go_wp2_with fail
    go_ret
    exact ⟨rfl, hb⟩
  simp only [if_neg hbig] at F
  have hs0 : ¬ (1048576 : Int) - a0n.size < 0 := by omega
  have S0 := fun w => toClient_any a0k a0r a0s a0n w
  have S1 := fun w => specClientFault_any a0k a0r a0s a0n w w0n
  have S2 := fun w => implClientFault_any a0k a0r a0s a0n w w0n
  generalize cliF a0k a0r a0s a0n = cd at *
  go_enter Tryd.func3, Tryd.ntmps3
  go_wp2_with fail
  generalize w.alloc (.cells #[.int .i64 a0k, .int .i64 a0r, .int .i64 a0s, .string a0n] 25) = W0 at *
  refine (F _).mono ?_
  rintro r u1 ⟨rfl, b1⟩
  have A1 := A0.on b1
  have B1 := btr b0 b1
  have p0 := A1.cell 0 _ rfl
  have p1 := A1.cell 1 _ rfl
  have p2 := A1.cell 2 _ rfl
  have p3 := A1.cell 3 _ rfl
  clear b1 b0 A0
  go_wp2_with fail
  refine (S0 _).mono ?_
  rintro r u2 ⟨rfl, b2⟩
  go_wp2_with fail
  refine (S1 _).mono ?_
  rintro r u3 ⟨rfl, b3⟩
  have b13 := btr b2 b3
  have A3 := A1.on b13
  have B3 := btr B1 b13
  have q0 := A3.cell 0 _ rfl
  have q1 := A3.cell 1 _ rfl
  have q2 := A3.cell 2 _ rfl
  have q3 := A3.cell 3 _ rfl
  clear b2 b3 b13 A1 B1 p0 p1 p2 p3
  go_wp2_with fail
  refine (S0 _).mono ?_
  rintro r u4 ⟨rfl, b4⟩
  go_wp2_with fail
  refine (S2 _).mono ?_
  rintro r u5 ⟨rfl, b5⟩
  have B5 := btr B3 (btr b4 b5)
  clear b4 b5 B3 A3
  go_wp2_with fail
  go_ret
  exact ⟨rfl, B5⟩

end Go.Proofs.YtlodhleihnlchaaDoor.fnExactClientFault
