/- The function KeysOf answers, at every argument, as its model does. The walk: the law's Go text answers true and turns nothing that was there. Conditions: as the theorem states. -/
import Derived.Test.YtlodhleihnlchaaDoorL11t
import Derived.Test.YtlodhleihnlchaaDoorC11b
import Derived.Test.YtlodhleihnlchaaDoorC11c
import Derived.WalkKit
import Derived.Below
namespace Go.Proofs.YtlodhleihnlchaaDoor.fnExactKeysOf
open Go.RowKit
set_option linter.unusedVariables false

set_option maxRecDepth 100000 in
theorem walk (a0 : Int) (a1 : Int) (a2 : Int) (w : World) (w0 : (Lit.int .i64 a0).wf = true) (w1 : (Lit.int .i64 a1).wf = true) (w2 : (Lit.int .i64 a2).wf = true) (lab : Labels w) :
    Calls Tryd.prog 5 #[.int .i64 a0, .int .i64 a1, .int .i64 a2] w fun e w' => e = .returned (.bool true) ∧ Below w.heap.size w w' := by
  have S1 := fun w => specKeysOf_any a0 a1 a2 w
  have S2 := fun w L => implKeysOf_any a0 a1 a2 w L
  generalize keysT a0 a1 a2 = t at *
  obtain ⟨c, r, s, p, x, y, f, u, d, h, k⟩ := t
  have EQ := fun w => eqTaken_any ⟨c, r, s, p, x, y, f, u, d, h, k⟩ w
  go_enter Tryd.func5, Tryd.ntmps5
  go_wp2_with fail
  refine (S1 _).mono ?_
  rintro e u1 ⟨rfl, b1⟩
  have A1 := At.new u1 [.int .i64 c, .int .i64 r, .int .i64 s, .int .i64 p, .int .i64 x, .int .i64 y, .int .i64 f, .int .i64 u, .int .i64 d, .int .i64 h, .int .i64 k] 45
  have B1 := bal b1 (.cells #[.int .i64 c, .int .i64 r, .int .i64 s, .int .i64 p, .int .i64 x, .int .i64 y, .int .i64 f, .int .i64 u, .int .i64 d, .int .i64 h, .int .i64 k] 45)
  have L1 := lab.on B1
  go_wp2_with fail
  generalize hW1 : u1.alloc (.cells #[.int .i64 c, .int .i64 r, .int .i64 s, .int .i64 p, .int .i64 x, .int .i64 y, .int .i64 f, .int .i64 u, .int .i64 d, .int .i64 h, .int .i64 k] 45) = W1 at *
  refine (S2 _ L1).mono ?_
  rintro e u2 ⟨rfl, b2⟩
  have A2 := (A1.on b2).alloc (.cells #[.int .i64 c, .int .i64 r, .int .i64 s, .int .i64 p, .int .i64 x, .int .i64 y, .int .i64 f, .int .i64 u, .int .i64 d, .int .i64 h, .int .i64 k] 45)
  have A3 := At.new u2 [.int .i64 c, .int .i64 r, .int .i64 s, .int .i64 p, .int .i64 x, .int .i64 y, .int .i64 f, .int .i64 u, .int .i64 d, .int .i64 h, .int .i64 k] 45
  have B2 := bal (btr B1 b2) (.cells #[.int .i64 c, .int .i64 r, .int .i64 s, .int .i64 p, .int .i64 x, .int .i64 y, .int .i64 f, .int .i64 u, .int .i64 d, .int .i64 h, .int .i64 k] 45)
  have pp0 := A2.cell 0 _ rfl
  have pp1 := A2.cell 1 _ rfl
  have pp2 := A2.cell 2 _ rfl
  have pp3 := A2.cell 3 _ rfl
  have pp4 := A2.cell 4 _ rfl
  have pp5 := A2.cell 5 _ rfl
  have pp6 := A2.cell 6 _ rfl
  have pp7 := A2.cell 7 _ rfl
  have pp8 := A2.cell 8 _ rfl
  have pp9 := A2.cell 9 _ rfl
  have pp10 := A2.cell 10 _ rfl
  have qq0 := A3.cell 0 _ rfl
  have qq1 := A3.cell 1 _ rfl
  have qq2 := A3.cell 2 _ rfl
  have qq3 := A3.cell 3 _ rfl
  have qq4 := A3.cell 4 _ rfl
  have qq5 := A3.cell 5 _ rfl
  have qq6 := A3.cell 6 _ rfl
  have qq7 := A3.cell 7 _ rfl
  have qq8 := A3.cell 8 _ rfl
  have qq9 := A3.cell 9 _ rfl
  have qq10 := A3.cell 10 _ rfl
  clear A1 A2 A3 b1 b2 B1 S1 S2 L1
  go_wp2_with fail
  refine (EQ _).mono ?_
  rintro e u3 ⟨rfl, b3⟩
  have B3 := btr B2 b3
  go_wp2_with fail
  go_ret
  exact ⟨rfl, B3⟩

end Go.Proofs.YtlodhleihnlchaaDoor.fnExactKeysOf
