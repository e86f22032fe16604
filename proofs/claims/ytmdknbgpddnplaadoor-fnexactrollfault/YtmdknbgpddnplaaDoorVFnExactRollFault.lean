/- The function RollFault answers, at every argument, as its model does. The walk: the law's Go text answers true and turns nothing that was there. Conditions: as the theorem states. -/
import Derived.Test.YtmdknbgpddnplaaDoorL80
import Derived.Test.YtmdknbgpddnplaaDoorC8b0
import Derived.Test.YtmdknbgpddnplaaDoorOpen8
import Derived.WalkKit
import Derived.Below
namespace Go.Proofs.YtmdknbgpddnplaaDoor.fnExactRollFault
open Go.RowKit
set_option linter.unusedVariables false

set_option maxRecDepth 100000 in
theorem walk (a0 : RollD) (w : World) (w0 : a0.p.n.size ≤ maxLen) (ert : ErrT w) :
    Calls Tryd.prog 3 #[R8 a0] w fun e w' => e = .returned (.bool true) ∧ Below w.heap.size w w' := by
  have hm := w0
  unfold maxLen at hm
  have b0 := bal (Below.refl _ w) (.cells #[.string a0.p.n, .int .i64 a0.p.a, .int .i64 a0.p.b, .int .i64 a0.p.e, .int .i64 a0.p.u, .int .i64 a0.b, .int .i64 a0.x, .int .i64 a0.y] 27)
  have A0 : At w.heap.size a0.vals (w.alloc (.cells #[.string a0.p.n, .int .i64 a0.p.a, .int .i64 a0.p.b, .int .i64 a0.p.e, .int .i64 a0.p.u, .int .i64 a0.b, .int .i64 a0.x, .int .i64 a0.y] 27)) := At.new w a0.vals 27
  have F := fun w => szRoll_any a0 1048576 w w0 (by omega) (by omega)
  by_cases hbig : (1048576 : Int) < a0.p.n.size
  · simp only [if_pos hbig] at F
    go_enter Tryd.func3, Tryd.ntmps3
    go_wp2_with fail
    refine (F _).mono ?_
    rintro r u1 ⟨rfl, b1⟩
    have hb := btr b0 b1
    go_wp2_with fail
    go_ret
    exact ⟨rfl, hb⟩
  simp only [if_neg hbig] at F
  have hs0 : ¬ (1048576 : Int) - a0.p.n.size < 0 := by omega
  have S0 := fun w => toRoll_any a0 w
  have S1 := fun w => specRollFault_any a0 w w0
  have S2 := fun w hg => implRollFault_any a0 w hg w0
  generalize a0.f = cd at *
  go_enter Tryd.func3, Tryd.ntmps3
  go_wp2_with fail
  have E0 := ert.on b0
  generalize w.alloc (.cells #[.string a0.p.n, .int .i64 a0.p.a, .int .i64 a0.p.b, .int .i64 a0.p.e, .int .i64 a0.p.u, .int .i64 a0.b, .int .i64 a0.x, .int .i64 a0.y] 27) = W0 at *
  refine (F _).mono ?_
  rintro r u1 ⟨rfl, b1⟩
  have A1 := A0.on b1
  have E1 := E0.on b1
  have B1 := btr b0 b1
  have p0 := A1.cell 0 _ rfl
  have p1 := A1.cell 1 _ rfl
  have p2 := A1.cell 2 _ rfl
  have p3 := A1.cell 3 _ rfl
  have p4 := A1.cell 4 _ rfl
  have p5 := A1.cell 5 _ rfl
  have p6 := A1.cell 6 _ rfl
  have p7 := A1.cell 7 _ rfl
  clear b1 b0 A0 E0 ert
  go_wp2_with fail
  refine (S0 _).mono ?_
  rintro r u2 ⟨rfl, b2⟩
  go_wp2_with fail
  refine (S1 _).mono ?_
  rintro r u3 ⟨rfl, b3⟩
  have b13 := btr b2 b3
  have A3 := A1.on b13
  have E3 := E1.on b13
  have B3 := btr B1 b13
  have q0 := A3.cell 0 _ rfl
  have q1 := A3.cell 1 _ rfl
  have q2 := A3.cell 2 _ rfl
  have q3 := A3.cell 3 _ rfl
  have q4 := A3.cell 4 _ rfl
  have q5 := A3.cell 5 _ rfl
  have q6 := A3.cell 6 _ rfl
  have q7 := A3.cell 7 _ rfl
  clear b2 b3 b13 A1 B1 p0 p1 p2 p3 p4 p5 p6 p7 E1
  go_wp2_with fail
  refine (S0 _).mono ?_
  rintro r u4 ⟨rfl, b4⟩
  have E4 := E3.on b4
  go_wp2_with fail
  refine (S2 _ E4).mono ?_
  rintro r u5 ⟨rfl, b5⟩
  have B5 := btr B3 (btr b4 b5)
  clear b4 b5 B3 A3 E3 E4
  go_wp2_with fail
  go_ret
  exact ⟨rfl, B5⟩

end Go.Proofs.YtmdknbgpddnplaaDoor.fnExactRollFault
