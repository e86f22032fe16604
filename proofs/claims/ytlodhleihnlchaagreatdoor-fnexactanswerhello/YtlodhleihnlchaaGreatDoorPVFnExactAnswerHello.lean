/- The function AnswerHello answers, at every argument, as its model does. The walk: the law's Go text answers true and turns nothing that was there. Conditions: as the theorem states. -/
import Derived.Test.YtlodhleihnlchaaGreatDoorE4
import Derived.Test.YtlodhleihnlchaaGreatDoorE7
import Derived.Test.YtlodhleihnlchaaGreatDoorE8
import Derived.WalkKit
import Derived.Below
namespace Go.Proofs.YtlodhleihnlchaaGreatDoor.fnExactAnswerHello
open Go.RowKit
set_option linter.unusedVariables false

set_option maxRecDepth 100000 in
theorem walk (a0 : Int) (a1 : Int) (a2 : Int) (a3r a3s : Int) (a3n : ByteArray) (w : World) (w0 : (Lit.int .i64 a0).wf = true) (w1 : (Lit.int .i64 a1).wf = true) (w2 : (Lit.int .i64 a2).wf = true) (w3r : (Lit.int .i64 a3r).wf = true) (w3s : (Lit.int .i64 a3s).wf = true) (w3n : a3n.size ≤ maxLen) (lab : Labels w) (ert : ErrT w) :
    Calls Tryz.prog 9 #[.int .i64 a0, .int .i64 a1, .int .i64 a2, .agg #[.int .i64 a3r, .int .i64 a3s, .string a3n]] w fun e w' => e = .returned (.bool true) ∧ Below w.heap.size w w' := by
  have hm := w3n
  unfold maxLen at hm
  have b0 := bal (Below.refl _ w) (.cells #[.int .i64 a3r, .int .i64 a3s, .string a3n] 133)
  have A0 := At.new w (HL3 a3r a3s a3n) 133
  have F := fun w => szHello_any a3r a3s a3n 1048576 w w3n (by omega) (by omega)
  by_cases hbig : (1048576 : Int) < a3n.size
  · simp only [if_pos hbig] at F
    go_enter Tryz.func9, Tryz.ntmps9
    go_wp2_with fail
    refine (F _).mono ?_
    rintro r u1 ⟨rfl, b1⟩
    have hb := btr b0 b1
    go_wp2_with fail
    go_ret
    exact ⟨rfl, hb⟩
  simp only [if_neg hbig] at F
  have hs0 : ¬ (1048576 : Int) - a3n.size < 0 := by omega
  have S0 := fun w => toHello_any a3r a3s a3n w
  have S1 := fun w => specAnswerHello_any a0 a1 a2 a3r a3s a3n w w3n
  have S2 := fun w L E => implAnswerHello_any a0 a1 a2 a3r a3s a3n w L E w3n
  generalize ansT a0 a1 a2 a3n a3r a3s = t at *
  obtain ⟨c, r, s, p, x, y, f, u, d, h, k⟩ := t
  have EQ := fun w => eqTaken_any ⟨c, r, s, p, x, y, f, u, d, h, k⟩ w
  have L0 := lab.on b0
  have E0 := ert.on b0
  clear lab ert
  go_enter Tryz.func9, Tryz.ntmps9
  go_wp2_with fail
  generalize w.alloc (.cells #[.int .i64 a3r, .int .i64 a3s, .string a3n] 133) = W0 at *
  refine (F _).mono ?_
  rintro e u1 ⟨rfl, b1⟩
  have A1 := A0.on b1
  have B1 := btr b0 b1
  have L1 := L0.on b1
  have E1 := E0.on b1
  have pp0 := A1.cell 0 _ rfl
  have pp1 := A1.cell 1 _ rfl
  have pp2 := A1.cell 2 _ rfl
  clear b1 b0 A0 L0 E0
  go_wp2_with fail
  refine (S0 _).mono ?_
  rintro e u2 ⟨rfl, b2⟩
  go_wp2_with fail
  refine (S1 _).mono ?_
  rintro e u3 ⟨rfl, b3⟩
  have X3 := At.new u3 [.int .i64 c, .int .i64 r, .int .i64 s, .int .i64 p, .int .i64 x, .int .i64 y, .int .i64 f, .int .i64 u, .int .i64 d, .int .i64 h, .int .i64 k] 112
  have c3 := bal (btr b2 b3) (.cells #[.int .i64 c, .int .i64 r, .int .i64 s, .int .i64 p, .int .i64 x, .int .i64 y, .int .i64 f, .int .i64 u, .int .i64 d, .int .i64 h, .int .i64 k] 112)
  have A3 := A1.on c3
  have B3 := btr B1 c3
  have L3 := L1.on c3
  have E3 := E1.on c3
  clear b2 b3 c3 A1 B1 L1 E1 pp0 pp1 pp2
  go_upto_region 6 with fail
  generalize u3.alloc (.cells #[.int .i64 c, .int .i64 r, .int .i64 s, .int .i64 p, .int .i64 x, .int .i64 y, .int .i64 f, .int .i64 u, .int .i64 d, .int .i64 h, .int .i64 k] 112) = W3 at *
  have qq0 := A3.cell 0 _ rfl
  have qq1 := A3.cell 1 _ rfl
  have qq2 := A3.cell 2 _ rfl
  go_wp2_with fail
  refine (S0 _).mono ?_
  rintro e u4 ⟨rfl, b4⟩
  go_wp2_with fail
  refine (S2 _ (L3.on b4) (E3.on b4)).mono ?_
  rintro e u5 ⟨rfl, b5⟩
  have b45 := btr b4 b5
  have X5 := (X3.on b45).alloc (.cells #[.int .i64 c, .int .i64 r, .int .i64 s, .int .i64 p, .int .i64 x, .int .i64 y, .int .i64 f, .int .i64 u, .int .i64 d, .int .i64 h, .int .i64 k] 112)
  have Y5 := At.new u5 [.int .i64 c, .int .i64 r, .int .i64 s, .int .i64 p, .int .i64 x, .int .i64 y, .int .i64 f, .int .i64 u, .int .i64 d, .int .i64 h, .int .i64 k] 112
  have B5 := bal (btr B3 b45) (.cells #[.int .i64 c, .int .i64 r, .int .i64 s, .int .i64 p, .int .i64 x, .int .i64 y, .int .i64 f, .int .i64 u, .int .i64 d, .int .i64 h, .int .i64 k] 112)
  clear b4 b5 b45 A3 B3 L3 E3 X3 S0 S1 S2 qq0 qq1 qq2
  go_upto_region 7 with fail
  generalize u5.alloc (.cells #[.int .i64 c, .int .i64 r, .int .i64 s, .int .i64 p, .int .i64 x, .int .i64 y, .int .i64 f, .int .i64 u, .int .i64 d, .int .i64 h, .int .i64 k] 112) = W5 at *
  have xx0 := X5.cell 0 _ rfl
  have xx1 := X5.cell 1 _ rfl
  have xx2 := X5.cell 2 _ rfl
  have xx3 := X5.cell 3 _ rfl
  have xx4 := X5.cell 4 _ rfl
  have xx5 := X5.cell 5 _ rfl
  have xx6 := X5.cell 6 _ rfl
  have xx7 := X5.cell 7 _ rfl
  have xx8 := X5.cell 8 _ rfl
  have xx9 := X5.cell 9 _ rfl
  have xx10 := X5.cell 10 _ rfl
  have yy0 := Y5.cell 0 _ rfl
  have yy1 := Y5.cell 1 _ rfl
  have yy2 := Y5.cell 2 _ rfl
  have yy3 := Y5.cell 3 _ rfl
  have yy4 := Y5.cell 4 _ rfl
  have yy5 := Y5.cell 5 _ rfl
  have yy6 := Y5.cell 6 _ rfl
  have yy7 := Y5.cell 7 _ rfl
  have yy8 := Y5.cell 8 _ rfl
  have yy9 := Y5.cell 9 _ rfl
  have yy10 := Y5.cell 10 _ rfl
  clear X5 Y5
  go_wp2_with fail
  refine (EQ _).mono ?_
  rintro e u6 ⟨rfl, b6⟩
  have B6 := btr B5 b6
  go_wp2_with fail
  go_ret
  exact ⟨rfl, B6⟩

end Go.Proofs.YtlodhleihnlchaaGreatDoor.fnExactAnswerHello
