/- The function SamePins answers, at every argument, as its model does, and leaves its arguments as they were. The walk: the law's Go text answers true and turns nothing that was there. Conditions: as the theorem states. -/
import Derived.Test.YtcnpocppgghejaaL7
import Derived.Test.YtcnpocppgghejaaC7s
import Derived.Test.YtcnpocppgghejaaOpen7
import Derived.WalkKit
import Derived.Below
namespace Go.Proofs.Ytcnpocppgghejaa.fnExactSamePins
open Go.RowKit
set_option linter.unusedVariables false

set_option maxRecDepth 100000 in
theorem walk (a0 : Option Addr) (len0 cap0 : Nat) (z0 : List PinD) (a1 : Option Addr) (len1 cap1 : Nat) (z1 : List PinD) (w : World) (w0 : PRow w w.heap.size a0 len0 cap0 z0) (w1 : PRow w w.heap.size a1 len1 cap1 z1) :
    Calls Try.prog 3 #[.slice a0 len0 cap0, .slice a1 len1 cap1] w fun e w' => e = .returned (.bool true) ∧ Below w.heap.size w w' := by
  have hl0 := w0.fits
  have hm0 := w0.most
  have hl1 := w1.fits
  have hm1 := w1.most
  unfold maxLen at hm0 hm1
  have e0 := Lib.hid w0.length
  have e1 := Lib.hid w1.length
  have hN0 := Lib.hid w0.names
  have hN1 := Lib.hid w1.names
  have S0 := szPinS_any a0 len0 cap0 w.heap.size z0 1048576 w w0 (Nat.le_refl _) (by omega) (by omega)
  by_cases h0 : 0 ≤ szP z0 1048576
  case neg =>
    generalize szP z0 1048576 = t0 at *
    go_enter Try.func3, Try.ntmps3
    go_wp2_with fail
    refine S0.mono ?_
    rintro r u1 ⟨rfl, b1⟩
    go_wp2_with fail
    go_ret
    exact ⟨rfl, b1⟩
  obtain ⟨g0, -, t1⟩ := szP_ok h0
  have hk0 : len0 ≤ 1048576 := by have := e0.out; omega
  generalize szP z0 1048576 = t0 at *
  have S1 := fun (W : World) (R : PRow W W.heap.size a1 len1 cap1 z1) => szPinS_any a1 len1 cap1 W.heap.size z1 t0 W R (Nat.le_refl _) h0 t1
  by_cases h1 : 0 ≤ szP z1 t0
  case neg =>
    generalize szP z1 t0 = s1 at *
    go_enter Try.func3, Try.ntmps3
    go_wp2_with fail
    refine S0.mono ?_
    rintro r u1 ⟨rfl, b1⟩
    go_wp2_with fail
    refine (S1 _ (w1.on b1)).mono ?_
    rintro r u2 ⟨rfl, b2⟩
    have bb := btr b1 b2
    go_wp2_with fail
    go_ret
    exact ⟨rfl, bb⟩
  obtain ⟨g1, -, -⟩ := szP_ok h1
  have hk1 : len1 ≤ 1048576 := by have := e1.out; omega
  have T0 := fun (W : World) (R : PRow W W.heap.size a0 len0 cap0 z0) => toPinS_any a0 len0 cap0 W.heap.size z0 W R (Nat.le_refl _) hk0
  have T1 := fun (W : World) (R : PRow W W.heap.size a1 len1 cap1 z1) => toPinS_any a1 len1 cap1 W.heap.size z1 W R (Nat.le_refl _) hk1
  generalize szP z1 t0 = s1 at *
  have C1 := fun (W : World) (x y : Option Addr) (c d : Nat) (R : PRow W W.heap.size x len0 c z0) (Q : PRow W W.heap.size y len1 d z1) => specSamePins_any x y len0 len1 c d W.heap.size z0 z1 W R Q (Nat.le_refl _)
  have C2 := fun (W : World) (x y : Option Addr) (c d : Nat) (R : PRow W W.heap.size x len0 c z0) (Q : PRow W W.heap.size y len1 d z1) => implSamePins_any x y len0 len1 c d W.heap.size z0 z1 W R Q (Nat.le_refl _)
  generalize sameL z0 z1 = tt at *
  clear g0 g1
  go_enter Try.func3, Try.ntmps3
  go_wp2_with fail
  refine S0.mono ?_
  rintro r u1 ⟨rfl, b1⟩
  go_wp2_with fail
  refine (S1 _ (w1.on b1)).mono ?_
  rintro r u2 ⟨rfl, b2⟩
  have B2 := btr b1 b2
  clear S0 S1 b1 b2
  go_wp2_with fail
  refine (T0 _ (w0.on B2)).mono ?_
  rintro r u3 ⟨rfl, O3, b3⟩
  have B3 := btr B2 b3
  clear B2 b3
  go_wp2_with fail
  refine (T1 _ (w1.on B3)).mono ?_
  rintro r u4 ⟨rfl, O4, b4⟩
  have B4 := btr B3 b4
  have R3 := (O3.row hN0.out).on b4
  have R4 := O4.row hN1.out
  clear B3 b4 O3 O4
  go_wp2_with fail
  refine (C1 _ _ _ _ _ R3 R4).mono ?_
  rintro r u5 ⟨rfl, b5⟩
  have B5 := btr B4 b5
  clear B4 b5 R3 R4
  go_wp2_with fail
  refine (T0 _ (w0.on B5)).mono ?_
  rintro r u6 ⟨rfl, O6, b6⟩
  have B6 := btr B5 b6
  clear B5 b6
  go_wp2_with fail
  refine (T1 _ (w1.on B6)).mono ?_
  rintro r u7 ⟨rfl, O7, b7⟩
  have B7 := btr B6 b7
  have R6 := (O6.row hN0.out).on b7
  have R7 := O7.row hN1.out
  clear B6 b7 O6 O7
  go_wp2_with fail
  refine (C2 _ _ _ _ _ R6 R7).mono ?_
  rintro r u8 ⟨rfl, b8⟩
  have B8 := btr B7 b8
  have Q6 := R6.on b8
  have Q7 := R7.on b8
  clear B7 b8 R6 R7
  go_wp2_with fail
  refine (T0 _ (w0.on B8)).mono ?_
  rintro r u9 ⟨rfl, O9, b9⟩
  have B9 := btr B8 b9
  have R9 := O9.row hN0.out
  have Y6 := Q6.on b9
  have Y7 := Q7.on b9
  clear B8 b9 O9 Q6 Q7
  go_wp2_with fail
  refine (eqPinS_any _ _ _ _ _ _ _ _ Y6 R9 (Nat.le_refl _)).mono ?_
  rintro r v1 ⟨rfl, d1⟩
  have D1 := btr B9 d1
  have X7 := Y7.on d1
  clear B9 d1 R9 Y6 Y7
  go_wp2_with fail
  refine (T1 _ (w1.on D1)).mono ?_
  rintro r v2 ⟨rfl, O2, d2⟩
  have D2 := btr D1 d2
  have R2 := O2.row hN1.out
  have V7 := X7.on d2
  clear D1 d2 O2 X7
  go_wp2_with fail
  refine (eqPinS_any _ _ _ _ _ _ _ _ V7 R2 (Nat.le_refl _)).mono ?_
  rintro r v3 ⟨rfl, d3⟩
  have D3 := btr D2 d3
  clear D2 d3 R2 V7
  go_wp2_with fail
  go_ret
  exact ⟨rfl, D3⟩

end Go.Proofs.Ytcnpocppgghejaa.fnExactSamePins
