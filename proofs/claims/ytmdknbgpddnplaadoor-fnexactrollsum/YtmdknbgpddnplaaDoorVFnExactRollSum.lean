/- The function RollSum answers, at every argument, as its model does. The walk: the law's Go text answers true and turns nothing that was there. Conditions: as the theorem states. -/
import Derived.Test.YtmdknbgpddnplaaDoorL7
import Derived.Test.YtmdknbgpddnplaaDoorC8b
import Derived.Test.YtmdknbgpddnplaaDoorOpen7
import Derived.WalkKit
import Derived.Below
namespace Go.Proofs.YtmdknbgpddnplaaDoor.fnExactRollSum
open Go.RowKit
set_option linter.unusedVariables false

set_option maxRecDepth 100000 in
theorem walk (a0 : PinD) (w : World) (w0 : a0.n.size ≤ maxLen) (lab : Labels w) (ert : ErrT w) :
    Calls Tryd.prog 4 #[P5 a0] w fun e w' => e = .returned (.bool true) ∧ Below w.heap.size w w' := by
  have hm := w0
  unfold maxLen at hm
  have b0 := bal (Below.refl _ w) (.cells #[.string a0.n, .int .i64 a0.a, .int .i64 a0.b, .int .i64 a0.e, .int .i64 a0.u] 23)
  have A0 : At w.heap.size a0.vals (w.alloc (.cells #[.string a0.n, .int .i64 a0.a, .int .i64 a0.b, .int .i64 a0.e, .int .i64 a0.u] 23)) := At.new w a0.vals 23
  have F := fun w => szPin_any a0 1048576 w w0 (by omega) (by omega)
  by_cases hbig : (1048576 : Int) < a0.n.size
  · simp only [if_pos hbig] at F
    go_enter Tryd.func4, Tryd.ntmps4
    go_wp2_with fail
    refine (F _).mono ?_
    rintro r u1 ⟨rfl, b1⟩
    have hb := btr b0 b1
    go_wp2_with fail
    go_ret
    exact ⟨rfl, hb⟩
  simp only [if_neg hbig] at F
  have hs0 : ¬ (1048576 : Int) - a0.n.size < 0 := by omega
  have S0 := fun w => toPin_any a0 w
  have S1 := fun w => specRollSum_any a0 w w0
  have S2 := fun w l e => implRollSum_any a0 w l e w0
  generalize a0.f = cd at *
  generalize rsumV a0 = vd at *
  go_enter Tryd.func4, Tryd.ntmps4
  go_wp2_with fail
  generalize w.alloc (.cells #[.string a0.n, .int .i64 a0.a, .int .i64 a0.b, .int .i64 a0.e, .int .i64 a0.u] 23) = W0 at *
  refine (F _).mono ?_
  rintro r u1 ⟨rfl, b1⟩
  have A1 := A0.on b1
  have B1 := btr b0 b1
  have p0 := A1.cell 0 _ rfl
  have p1 := A1.cell 1 _ rfl
  have p2 := A1.cell 2 _ rfl
  have p3 := A1.cell 3 _ rfl
  have p4 := A1.cell 4 _ rfl
  clear b1 b0 A0 F
  go_wp2_with fail
  refine (S0 _).mono ?_
  rintro r u2 ⟨rfl, b2⟩
  go_wp2_with fail
  refine (S1 _).mono ?_
  rintro r u3 ⟨rfl, b3⟩
  have b13 := btr (btr b2 b3) (bal (Below.refl _ u3) (.cells #[.int .i64 cd, .int .i64 vd] 38))
  have A3 := A1.on b13
  have X3 := At.new u3 [.int .i64 cd, .int .i64 vd] 38
  have B3 := btr B1 b13
  have q0 := A3.cell 0 _ rfl
  have q1 := A3.cell 1 _ rfl
  have q2 := A3.cell 2 _ rfl
  have q3 := A3.cell 3 _ rfl
  have q4 := A3.cell 4 _ rfl
  clear b2 b3 b13 A1 B1 p0 p1 p2 p3 p4
  go_wp2_with fail
  generalize u3.alloc (.cells #[.int .i64 cd, .int .i64 vd] 38) = W3 at *
  generalize u3.heap.size = xb at *
  refine (S0 _).mono ?_
  rintro r u4 ⟨rfl, b4⟩
  have L4 := lab.on (btr B3 b4)
  have E4 := ert.on (btr B3 b4)
  go_wp2_with fail
  refine (S2 _ L4 E4).mono ?_
  rintro r u5 ⟨rfl, b5⟩
  have ba := btr (btr b4 b5) (bal (Below.refl _ u5) (.cells #[.int .i64 cd, .int .i64 vd] 38))
  have X5 := X3.on ba
  have B5 := btr B3 ba
  have x0 := X5.cell 0 _ rfl
  have x1 := X5.cell 1 _ rfl
  clear b4 b5 ba B3 A3 X3 L4 E4 q0 q1 q2 q3 q4
  go_wp2_with fail
  refine (eqInt_any _ _ _ _ _ rfl rfl).mono ?_
  rintro r u6 ⟨rfl, b6⟩
  have hb := btr B5 b6
  go_wp2_with fail
  go_ret
  exact ⟨rfl, hb⟩

end Go.Proofs.YtmdknbgpddnplaaDoor.fnExactRollSum
