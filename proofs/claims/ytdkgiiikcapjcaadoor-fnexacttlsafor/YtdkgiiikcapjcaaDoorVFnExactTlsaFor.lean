/- The function TlsaFor answers, at every argument, as its model does. The walk: the law's Go text answers true and turns nothing that was there. Conditions: as the theorem states. -/
import Derived.Test.YtdkgiiikcapjcaaDoorL5
import Derived.Test.YtdkgiiikcapjcaaDoorC5h
import Derived.WalkKit
import Derived.Below
namespace Go.Proofs.YtdkgiiikcapjcaaDoor.fnExactTlsaFor
open Go.RowKit
set_option linter.unusedVariables false

set_option maxRecDepth 100000 in
theorem walk (a0 : ByteArray) (a1 : Int) (a2 : Int) (w : World) (w0 : a0.size ≤ maxLen) (w1 : (Lit.int .i64 a1).wf = true) (w2 : (Lit.int .i64 a2).wf = true) (lab : Labels w) :
    Calls Tryd.prog 8 #[.string a0, .int .i64 a1, .int .i64 a2] w fun e w' => e = .returned (.bool true) ∧ Below w.heap.size w w' := by
  have hm := w0
  unfold maxLen at hm
  by_cases hbig : 1048576 < a0.size
  · have hb' : (1048576 : Int) < a0.size := by omega
    go_enter Tryd.func8, Tryd.ntmps8
    go_wp2_with fail
    go_ret
    exact ⟨rfl, Below.refl _ _⟩
  have hb' : (a0.size : Int) ≤ 1048576 := by omega
  have S1 := fun w => specTlsaFor_any a0 a1 a2 w w0
  have S2 := fun w lab => implTlsaFor_any a0 a1 a2 w lab w0
  unfold forT at S1 S2
  generalize M.bs (M.forN a0.data.toList (pubB a1) a2) = n at *
  generalize M.forU a0.data.toList (pubB a1) a2 = u at *
  generalize M.forM a0.data.toList (pubB a1) a2 = m at *
  generalize M.forV a0.data.toList (pubB a1) a1 a2 = v at *
  generalize M.forC a0.data.toList (pubB a1) a2 = c at *
  go_enter Tryd.func8, Tryd.ntmps8
  go_wp2_with fail
  refine (S1 _).mono ?_
  rintro r u1 ⟨rfl, b1⟩
  have A1 := At.new u1 (TL5 c n u m v) 32
  have B1 := bal b1 (.cells #[.int .i64 c, .string n, .int .i64 u, .int .i64 m, .int .i64 v] 32)
  have L1 := lab.on B1
  go_wp2_with fail
  generalize hW1 : u1.alloc (.cells #[.int .i64 c, .string n, .int .i64 u, .int .i64 m, .int .i64 v] 32) = W1 at *
  refine (S2 _ L1).mono ?_
  rintro r u2 ⟨rfl, b2⟩
  have A2 := (A1.on b2).alloc (.cells #[.int .i64 c, .string n, .int .i64 u, .int .i64 m, .int .i64 v] 32)
  have A3 := At.new u2 (TL5 c n u m v) 32
  have B2 := bal (btr B1 b2) (.cells #[.int .i64 c, .string n, .int .i64 u, .int .i64 m, .int .i64 v] 32)
  have p0 := A2.cell 0 _ rfl
  have p1 := A2.cell 1 _ rfl
  have p2 := A2.cell 2 _ rfl
  have p3 := A2.cell 3 _ rfl
  have p4 := A2.cell 4 _ rfl
  have q0 := A3.cell 0 _ rfl
  have q1 := A3.cell 1 _ rfl
  have q2 := A3.cell 2 _ rfl
  have q3 := A3.cell 3 _ rfl
  have q4 := A3.cell 4 _ rfl
  clear A1 A2 A3 b1 b2 B1 S1 S2 L1
  go_wp2_with fail
  refine (eqTlsaResult_any c n u m v _).mono ?_
  rintro r u3 ⟨rfl, b3⟩
  have B3 := btr B2 b3
  go_wp2_with fail
  go_ret
  exact ⟨rfl, B3⟩

end Go.Proofs.YtdkgiiikcapjcaaDoor.fnExactTlsaFor
