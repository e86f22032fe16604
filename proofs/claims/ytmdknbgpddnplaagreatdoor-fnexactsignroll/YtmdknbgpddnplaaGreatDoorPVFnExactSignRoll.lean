/- The function SignRoll answers, at every argument, as its model does. The walk: the law's Go text answers true and turns nothing that was there. Conditions: as the theorem states. -/
import Derived.Test.YtmdknbgpddnplaaGreatDoorS5
import Derived.Test.YtmdknbgpddnplaaGreatDoorS7
import Derived.WalkKit
import Derived.Below
namespace Go.Proofs.YtmdknbgpddnplaaGreatDoor.fnExactSignRoll
open Go.RowKit
set_option linter.unusedVariables false

set_option maxRecDepth 100000 in
theorem walk (a0 : Int) (a1 : PinD) (w : World) (w0 : (Lit.int .i64 a0).wf = true) (w1 : a1.n.size ≤ maxLen) (lab : Labels w) (ert : ErrT w) :
    Calls Tryz.prog 5 #[.int .i64 a0, P5 a1] w fun e w' => e = .returned (.bool true) ∧ Below w.heap.size w w' := by
  have hm := w1
  unfold maxLen at hm
  have b0 := bal (Below.refl _ w) (.cells #[.string a1.n, .int .i64 a1.a, .int .i64 a1.b, .int .i64 a1.e, .int .i64 a1.u] 60)
  have A0 : At w.heap.size a1.vals (w.alloc (.cells #[.string a1.n, .int .i64 a1.a, .int .i64 a1.b, .int .i64 a1.e, .int .i64 a1.u] 60)) := At.new w a1.vals 60
  have F := fun w => szPin_any a1 1048576 w w1 (by omega) (by omega)
  by_cases hbig : (1048576 : Int) < a1.n.size
  · simp only [if_pos hbig] at F
    go_enter Tryz.func5, Tryz.ntmps5
    go_wp2_with fail
    refine (F _).mono ?_
    rintro r u1 ⟨rfl, b1⟩
    have hb := btr b0 b1
    go_wp2_with fail
    go_ret
    exact ⟨rfl, hb⟩
  simp only [if_neg hbig] at F
  have hs0 : ¬ (1048576 : Int) - a1.n.size < 0 := by omega
  have S0 := fun w => toPin_any a1 w
  have S1 := fun w => specSignRoll_any a0 a1 w w1
  have S2 := fun w l e => implSignRoll_any a0 a1 w l e w1
  generalize signC a0 a1 = cd at *
  generalize signL a0 a1 = rd at *
  go_enter Tryz.func5, Tryz.ntmps5
  go_wp2_with fail
  generalize w.alloc (.cells #[.string a1.n, .int .i64 a1.a, .int .i64 a1.b, .int .i64 a1.e, .int .i64 a1.u] 60) = W0 at *
  refine (F _).mono ?_
  rintro r u1 ⟨rfl, b1⟩
  have A1 := A0.on b1
  have B1 := btr b0 b1
  have p0 := A1.cell 0 _ rfl
  have p1 := A1.cell 1 _ rfl
  have p2 := A1.cell 2 _ rfl
  have p3 := A1.cell 3 _ rfl
  have p4 := A1.cell 4 _ rfl
  clear b1 b0 A0 F
  go_wp2_with fail
  refine (S0 _).mono ?_
  rintro r u2 ⟨rfl, b2⟩
  go_wp2_with fail
  refine (S1 _).mono ?_
  rintro r u3 ⟨rfl, b3⟩
  have b13 := btr (btr b2 b3) (bal (Below.refl _ u3) (.cells #[.int .i64 cd, .string rd.p.n, .int .i64 rd.p.a, .int .i64 rd.p.b, .int .i64 rd.p.e, .int .i64 rd.p.u, .int .i64 rd.b, .int .i64 rd.x, .int .i64 rd.y] 42))
  have A3 := A1.on b13
  have X3 : At u3.heap.size (RL9 cd rd) (u3.alloc (.cells #[.int .i64 cd, .string rd.p.n, .int .i64 rd.p.a, .int .i64 rd.p.b, .int .i64 rd.p.e, .int .i64 rd.p.u, .int .i64 rd.b, .int .i64 rd.x, .int .i64 rd.y] 42)) := At.new u3 (RL9 cd rd) 42
  have B3 := btr B1 b13
  have q0 := A3.cell 0 _ rfl
  have q1 := A3.cell 1 _ rfl
  have q2 := A3.cell 2 _ rfl
  have q3 := A3.cell 3 _ rfl
  have q4 := A3.cell 4 _ rfl
  clear b2 b3 b13 A1 B1 p0 p1 p2 p3 p4
  go_wp2_with fail
  generalize u3.alloc (.cells #[.int .i64 cd, .string rd.p.n, .int .i64 rd.p.a, .int .i64 rd.p.b, .int .i64 rd.p.e, .int .i64 rd.p.u, .int .i64 rd.b, .int .i64 rd.x, .int .i64 rd.y] 42) = W3 at *
  generalize u3.heap.size = xb at *
  refine (S0 _).mono ?_
  rintro r u4 ⟨rfl, b4⟩
  have L4 := lab.on (btr B3 b4)
  have E4 := ert.on (btr B3 b4)
  go_wp2_with fail
  refine (S2 _ L4 E4).mono ?_
  rintro r u5 ⟨rfl, b5⟩
  have ba := btr (btr b4 b5) (bal (Below.refl _ u5) (.cells #[.int .i64 cd, .string rd.p.n, .int .i64 rd.p.a, .int .i64 rd.p.b, .int .i64 rd.p.e, .int .i64 rd.p.u, .int .i64 rd.b, .int .i64 rd.x, .int .i64 rd.y] 42))
  have X5 := X3.on ba
  have B5 := btr B3 ba
  have x0 := X5.cell 0 _ rfl
  have x1 := X5.cell 1 _ rfl
  have x2 := X5.cell 2 _ rfl
  have x3 := X5.cell 3 _ rfl
  have x4 := X5.cell 4 _ rfl
  have x5 := X5.cell 5 _ rfl
  have x6 := X5.cell 6 _ rfl
  have x7 := X5.cell 7 _ rfl
  have x8 := X5.cell 8 _ rfl
  clear b4 b5 ba B3 A3 X3 L4 E4 q0 q1 q2 q3 q4
  go_wp2_with fail
  refine (eqRollResult_any cd rd _).mono ?_
  rintro r u6 ⟨rfl, b6⟩
  have hb := btr B5 b6
  go_wp2_with fail
  go_ret
  exact ⟨rfl, hb⟩

end Go.Proofs.YtmdknbgpddnplaaGreatDoor.fnExactSignRoll
