/- The function FindPin answers, at every argument, as its model does, and leaves its argument as it was. The walk: the law's Go text answers true and turns nothing that was there. Conditions: as the theorem states. -/
import Derived.Test.YtcnpocppgghejaaDoorL7b
import Derived.Test.YtcnpocppgghejaaDoorOpen7
import Derived.WalkKit
import Derived.Below
namespace Go.Proofs.YtcnpocppgghejaaDoor.fnExactFindPin
open Go.RowKit
set_option linter.unusedVariables false

set_option maxRecDepth 100000 in
theorem walk (a0 : Option Addr) (len0 cap0 : Nat) (z0 : List PinD) (a1 : ByteArray) (w : World) (w0 : PRow w w.heap.size a0 len0 cap0 z0) (w1 : a1.size ≤ maxLen) :
    Calls Tryd.prog 5 #[.slice a0 len0 cap0, .string a1] w fun e w' => e = .returned (.bool true) ∧ Below w.heap.size w w' := by
  have hl0 := w0.fits
  have hm0 := w0.most
  have hm1 := w1
  unfold maxLen at hm0 hm1
  by_cases hbig : (1048576 : Int) < a1.size
  · go_enter Tryd.func5, Tryd.ntmps5
    go_wp2_with fail
    go_ret
    exact ⟨rfl, Below.refl _ _⟩
  have e0 := Lib.hid w0.length
  have hN0 := Lib.hid w0.names
  have S0 := szPinS_any a0 len0 cap0 w.heap.size z0 1048576 w w0 (Nat.le_refl _) (by omega) (by omega)
  by_cases h0 : 0 ≤ szP z0 1048576
  case neg =>
    generalize szP z0 1048576 = t0 at *
    go_enter Tryd.func5, Tryd.ntmps5
    go_wp2_with fail
    refine S0.mono ?_
    rintro r u1 ⟨rfl, b1⟩
    go_wp2_with fail
    go_ret
    exact ⟨rfl, b1⟩
  obtain ⟨g0, -, t1⟩ := szP_ok h0
  have hk0 : len0 ≤ 1048576 := by have := e0.out; omega
  generalize szP z0 1048576 = t0 at *
  have T0 := fun (W : World) (R : PRow W W.heap.size a0 len0 cap0 z0) => toPinS_any a0 len0 cap0 W.heap.size z0 W R (Nat.le_refl _) hk0
  have C1 := fun (W : World) (x : Option Addr) (c : Nat) (R : PRow W W.heap.size x len0 c z0) => specFindPin_any x len0 c W.heap.size z0 a1 W R (Nat.le_refl _) w1
  have C2 := fun (W : World) (x : Option Addr) (c : Nat) (R : PRow W W.heap.size x len0 c z0) => implFindPin_any x len0 c W.heap.size z0 a1 W R (Nat.le_refl _) w1
  generalize findC z0 a1.data.toList = fc at *
  generalize findR z0 a1.data.toList = fp at *
  clear g0
  go_enter Tryd.func5, Tryd.ntmps5
  go_wp2_with fail
  refine S0.mono ?_
  rintro r u1 ⟨rfl, b1⟩
  clear S0
  go_wp2_with fail
  refine (T0 _ (w0.on b1)).mono ?_
  rintro r u3 ⟨rfl, O3, b3⟩
  have B3 := btr b1 b3
  have R3 := O3.row hN0.out
  clear b1 b3 O3
  go_wp2_with fail
  refine (C1 _ _ _ R3).mono ?_
  rintro r u5 ⟨rfl, b5⟩
  have B5 := bal (btr B3 b5) (.cells #[.int .i64 fc, .string fp.n, .int .i64 fp.a, .int .i64 fp.b, .int .i64 fp.e, .int .i64 fp.u] 37)
  have X5 : At u5.heap.size (RL6 fc fp) (u5.alloc (.cells #[.int .i64 fc, .string fp.n, .int .i64 fp.a, .int .i64 fp.b, .int .i64 fp.e, .int .i64 fp.u] 37)) := At.new u5 (RL6 fc fp) 37
  clear B3 b5 R3
  go_wp2_with fail
  generalize u5.alloc (.cells #[.int .i64 fc, .string fp.n, .int .i64 fp.a, .int .i64 fp.b, .int .i64 fp.e, .int .i64 fp.u] 37) = v5 at *
  refine (T0 _ (w0.on B5)).mono ?_
  rintro r u6 ⟨rfl, O6, b6⟩
  have B6 := btr B5 b6
  have R6' := O6.row hN0.out
  have X6 := X5.on b6
  clear B5 b6 O6 X5
  go_wp2_with fail
  refine (C2 _ _ _ R6').mono ?_
  rintro r u8 ⟨rfl, b8⟩
  have c8 := bal b8 (.cells #[.int .i64 fc, .string fp.n, .int .i64 fp.a, .int .i64 fp.b, .int .i64 fp.e, .int .i64 fp.u] 37)
  have B8 := btr B6 c8
  have Q6 := R6'.on c8
  have X8 := X6.on b8
  have x0 := X8.cell 0 _ rfl
  have x1 := X8.cell 1 _ rfl
  have x2 := X8.cell 2 _ rfl
  have x3 := X8.cell 3 _ rfl
  have x4 := X8.cell 4 _ rfl
  have x5 := X8.cell 5 _ rfl
  have lt8 : u5.heap.size < u8.heap.size := X8.lt (by simp [RL6])
  clear B6 b8 c8 R6' X6 X8
  go_wp2_with fail
  refine (eqPinResult_any fc fp _).mono ?_
  rintro r u9 ⟨rfl, b9⟩
  have B9 := btr B8 b9
  have Q9 := Q6.on b9
  clear B8 b9 Q6 x0 x1 x2 x3 x4 x5 lt8
  go_wp2_with fail
  refine (T0 _ (w0.on B9)).mono ?_
  rintro r v1 ⟨rfl, O1, d1⟩
  have D1 := btr B9 d1
  have R1 := O1.row hN0.out
  have Y1 := Q9.on d1
  clear B9 d1 O1 Q9
  go_wp2_with fail
  refine (eqPinS_any _ _ _ _ _ _ _ _ Y1 R1 (Nat.le_refl _)).mono ?_
  rintro r v2 ⟨rfl, d2⟩
  have D2 := btr D1 d2
  clear D1 d2 R1 Y1
  go_wp2_with fail
  go_ret
  exact ⟨rfl, D2⟩

end Go.Proofs.YtcnpocppgghejaaDoor.fnExactFindPin
